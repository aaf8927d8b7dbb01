/-
  The walks of eiderdownref.num, Shown. (Written by genkm.py.)
-/
import Derived.Test.YtlbgkpibaahglacDoorKe
import Derived.Test.YtlbgkpibaahglacDoorKh
import Derived.Test.YtlbgkpibaahglacDoorKb
set_option linter.unusedVariables false
namespace Go.Proofs.YtlbgkpibaahglacDoor
open Go.RowKit
open Txt (ba_list)
theorem num_any {w V : World} (hb : Below w.heap.size w V) (ht : Tab w) {z : Int} (hz : I64 z) :
    Calls Tryd.prog 20 #[.int .i64 z] V fun e w' => e = .returned (.string ⟨(Lib.itoa z).toArray⟩) ∧ Below w.heap.size w w' := by
  have I := itoa_at hb ht hz
  go_enter Tryd.func20, Tryd.ntmps20
  go_wp2_with fail
  refine I.mono ?_
  rintro e w1 ⟨rfl, b1⟩
  have B1 := hide b1
  clear b1 I
  go_wp2_with fail
  go_ret
  exact ⟨rfl, unhide B1⟩
theorem cat_mk (a b : List UInt8) : mkb a ++ mkb b = mkb (a ++ b) := by
  apply ba_list
  rw [ByteArray.toList_eq, ByteArray.toList_eq]
  simp [mkb]
theorem catT {o : Oper} {ρ : Operand → Value} (x y : Operand) (ho : o.op = .binOp .add 9 x y 9) {a b : List UInt8} (hx : ρ x = .string (mkb a)) (hy : ρ y = .string (mkb b)) (hl : a.length + b.length ≤ 1000000000) (w : World) : (execOp ρ o).run Tryd.prog w = .ok (.value (.string (mkb (a ++ b)))) w := by
  have e := cat_mk a b
  have hz : (mkb a).size + (mkb b).size ≤ 9223372036854775807 := by rw [mk_size, mk_size]; omega
  unfold execOp
  rw [ho]
  generalize mkb a = A at hx e hz
  generalize mkb b = B at hy e hz
  go_simp
theorem quoT {o : Oper} {ρ : Operand → Value} (x : Operand) (ho : o.op = .binOp .quo 3 x (.const (.int .i64 16)) 3) (hc : ρ (.const (.int .i64 16)) = .int .i64 16) {n : Nat} (hn : n < 256) (hx : ρ x = .int .i64 (n : Int)) (w : World) : (execOp ρ o).run Tryd.prog w = .ok (.value (.int .i64 ((n / 16 : Nat) : Int))) w := by
  unfold execOp
  rw [ho]
  go_simp
  rw [IntWalk.i64_left]
  unfold wrap64
  omega
theorem remT {o : Oper} {ρ : Operand → Value} (x : Operand) (ho : o.op = .binOp .rem 3 x (.const (.int .i64 16)) 3) (hc : ρ (.const (.int .i64 16)) = .int .i64 16) {n : Nat} (hn : n < 256) (hx : ρ x = .int .i64 (n : Int)) (w : World) : (execOp ρ o).run Tryd.prog w = .ok (.value (.int .i64 ((n % 16 : Nat) : Int))) w := by
  unfold execOp
  rw [ho]
  go_simp
  exact Int.tmod_eq_emod_of_nonneg (by omega)
theorem addT {o : Oper} {ρ : Operand → Value} (x : Operand) (ho : o.op = .binOp .add 3 x (.const (.int .i64 1)) 3) (hc : ρ (.const (.int .i64 1)) = .int .i64 1) {n : Nat} (hn : n < 256) (hx : ρ x = .int .i64 (n : Int)) (w : World) : (execOp ρ o).run Tryd.prog w = .ok (.value (.int .i64 ((n + 1 : Nat) : Int))) w := by
  unfold execOp
  rw [ho]
  go_simp
  rw [IntWalk.i64_left]
  unfold wrap64
  omega
theorem ext_one {S : ByteArray} {n : Nat} (hn : n < S.size) : S.extract n (n + 1) = mkb [S[n]] := by
  have h : (S.extract n (n + 1)).toList = [S[n]] := by
    rw [ByteArray.toList_eq, ByteArray.data_extract, Array.toList_extract]
    show (S.data.toList.drop n).take (n + 1 - n) = _
    have hn2 : n < S.data.toList.length := hn
    rw [List.drop_eq_getElem_cons hn2, show n + 1 - n = 1 by omega]
    rfl
  exact ba_list (h.trans (Lib_mk [S[n]]).symm)
theorem sliceT {o : Oper} {ρ : Operand → Value} (x y z : Operand) (ho : o.op = .slice 9 x (some y) (some z) none) {S : ByteArray} (hx : ρ x = .string S) {n : Nat} (hn : n < S.size) (hs : S.size ≤ 1000000000) (hy : ρ y = .int .i64 (n : Int)) (hz : ρ z = .int .i64 ((n + 1 : Nat) : Int)) (w : World) : (execOp ρ o).run Tryd.prog w = .ok (.value (.string (mkb [S[n]]))) w := by
  unfold execOp
  rw [ho]
  go_simp
  rw [if_pos ⟨by omega, by omega⟩, if_pos (by omega), ext_one hn]
theorem digT {o : Oper} {ρ : Operand → Value} (x y z : Operand) (ho : o.op = .slice 9 x (some y) (some z) none) (hx : ρ x = .string ⟨#[48, 49, 50, 51, 52, 53, 54, 55, 56, 57, 97, 98, 99, 100, 101, 102]⟩) {n : Nat} (hn : n < 16) (hy : ρ y = .int .i64 (n : Int)) (hz : ρ z = .int .i64 ((n + 1 : Nat) : Int)) (w : World) : (execOp ρ o).run Tryd.prog w = .ok (.value (.string (mkb [Txt.hexc n]))) w := by
  have h := sliceT x y z ho hx (n := n) (show n < 16 from hn) (by decide) hy hz w
  rw [hex_get hn] at h
  exact h
set_option maxHeartbeats 1000000 in
set_option maxRecDepth 100000 in
theorem Shown_any (s : ByteArray) (hs : s.size ≤ 100000000) (w : World) :
    Calls Tryd.prog 12 #[.string s] w fun e w' => e = .returned (.string (mkb (Txt.shows s.toList))) ∧ Below w.heap.size w w' := by
  go_enter Tryd.func12, Tryd.ntmps12
  go_wp2_with fail
  go_loopw [4, 5] (fun o i wr => ∃ k : Nat, k ≤ s.size ∧ i = .int .i64 k ∧ o = .string (mkb (61 :: Txt.showR (s.toList.take k))) ∧ Hid (Below w.heap.size w wr)) (fun _ i _ => s.size - (intOf i).toNat)
  case atStart => exact ⟨0, Nat.zero_le _, rfl, rfl, hide (Below.refl _ _)⟩
  case round =>
    obtain ⟨k, hk, rfl, rfl, BR⟩ := hrel
    by_cases hlt : k < s.size
    case neg =>
      have hz : ¬ (k : Int) < (s.size : Int) := by omega
      have E := hide (show s.toList.take k = s.toList from List.take_of_length_le (by rw [len_bytes]; omega))
      go_wp2_with fail
      go_ret
      exact ⟨by rw [unhide E]; rfl, unhide BR⟩
    case pos =>
      have hz : (k : Int) < (s.size : Int) := by omega
      have E := hide (show 61 :: Txt.showR (s.toList.take (k + 1)) = 61 :: Txt.showR (s.toList.take k) ++ Txt.showB (s[k]) by rw [take_byte s hlt, Txt.showR_append, Txt.showR_one]; rfl)
      have LN := hide (show (61 :: Txt.showR (s.toList.take k)).length ≤ 400000000 by have := (Txt.showR_len (s.toList.take k)).2; rw [List.length_take, len_bytes] at this; rw [List.length_cons]; omega)
      have XO := hide (ext_one hlt)
      generalize 61 :: Txt.showR (s.toList.take k) = A at E LN ⊢
      go_upto_region 7 with fail
      have hc := (s[k]).toNat_lt
      have PI := hide (plain_int (s[k]))
      obtain ⟨n, hn⟩ : ∃ n : Nat, n = (s[k]).toNat := ⟨_, rfl⟩
      have SB := hide (show Txt.plain (s[k]) = false → Txt.showB (s[k]) = [92, Txt.hexc (n / 16), Txt.hexc (n % 16)] from fun h => by unfold Txt.showB; rw [h, hn]; rfl)
      have SY := hide (show Txt.plain (s[k]) = true → Txt.showB (s[k]) = [s[k]] from fun h => by unfold Txt.showB; rw [h]; rfl)
      rw [← hn] at hc PI ⊢
      clear hn
      obtain ⟨z, hzz⟩ : ∃ z : Int, z = (n : Int) := ⟨_, rfl⟩
      rw [← hzz] at PI ⊢
      have ZN := hide hzz
      clear hzz
      have hw : wrap64 z = z := by have := unhide ZN; unfold wrap64; omega
      rw [hw]
      obtain ⟨pb, hpb⟩ : ∃ b : Bool, b = Txt.plain (s[k]) := ⟨_, rfl⟩
      rw [← hpb] at PI SB SY
      clear hpb
      go_cut [26] from 17 to 26 (fun q wx => q = .bool pb ∧ wx = wr)
      case first =>
        have pi := unhide PI
        by_cases h1 : 33 ≤ z
        case neg =>
          have q1 : decide (33 ≤ z) = false := by simpa using h1
          rw [q1] at pi
          have P := hide (show pb = false from pi.symm)
          clear h1 pi
          go_wp2_with fail
          go_meet
          exact ⟨by rw [unhide P], rfl⟩
        have q1 : decide (33 ≤ z) = true := by simpa using h1
        by_cases h2 : z ≤ 126
        case neg =>
          have q2 : decide (z ≤ 126) = false := by simpa using h2
          rw [q1, q2] at pi
          have P := hide (show pb = false from pi.symm)
          clear h1 h2 pi
          go_wp2_with fail
          go_meet
          exact ⟨by rw [unhide P], rfl⟩
        have q2 : decide (z ≤ 126) = true := by simpa using h2
        rw [q1, q2] at pi
        have P := hide (show pb = !(z == 92) from pi.symm)
        clear h1 h2 pi
        go_wp2_with fail
        go_meet
        exact ⟨by rw [unhide P]; simp [bne], rfl⟩
      case rest =>
      obtain ⟨rfl, hwc⟩ := hcut
      rw [hwc]
      clear hwc wc
      cases pb
      case true =>
        have hk1 : (k : Int) + 1 ≤ (s.size : Int) := by omega
        have hb : (mkb A).size + (s.extract k (k + 1)).size ≤ 9223372036854775807 := by rw [unhide XO, mk_size, mk_size]; have := unhide LN; simp; omega
        have EO := hide (show mkb A ++ s.extract k (k + 1) = mkb (61 :: Txt.showR (s.toList.take (k + 1))) by rw [unhide XO, cat_mk, unhide E, unhide SY rfl])
        clear SB SY PI
        go_wp2_with fail
        go_roundw
        case rel => exact ⟨k + 1, by omega, by go_num, by rw [unhide EO], BR⟩
        case measure => simp [intOf]; omega
      case false =>
        obtain rfl := unhide ZN
        have EO := hide (show A ++ ([92] ++ [Txt.hexc (n / 16)] ++ [Txt.hexc (n % 16)]) = 61 :: Txt.showR (s.toList.take (k + 1)) by rw [unhide E, unhide SB rfl]; rfl)
        have ll := unhide LN
        clear SB SY PI hw
        go_upto_region 9 with fail
        have b0 : True := trivial
        refine wp_region_held_drew (S := fun _ => True) (by kernel_rfl) (trivial) (fun hS => ?_)
        refine wpAnyH_take (i := 0) (oi := { dst := some 34, op := Op.move (Operand.tmp 4), type := 9, pos := "base.go:687", after := #[], guard := none }) (v := .string (mkb A)) rfl (by kernel_rfl) (by kernel_rfl) (by kernel_rfl) (fun _ _ _ h => h) (Or.inl ⟨by kernel_rfl, fun W h => (by first | kernel_rfl | go_simp)⟩) trivial ?_
        try simp only [Act.put, List.setIfInBounds_toArray, List.set_cons_zero, List.set_cons_succ]
        refine wpAnyH_take (i := 1) (oi := { dst := some 35, op := Op.move (Operand.tmp 3), type := 9, pos := "base.go:687", after := #[], guard := none }) (v := .string ⟨#[48, 49, 50, 51, 52, 53, 54, 55, 56, 57, 97, 98, 99, 100, 101, 102]⟩) rfl (by kernel_rfl) (by kernel_rfl) (by kernel_rfl) (fun _ _ _ h => h) (Or.inl ⟨by kernel_rfl, fun W h => (by first | kernel_rfl | go_simp)⟩) trivial ?_
        try simp only [Act.put, List.setIfInBounds_toArray, List.set_cons_zero, List.set_cons_succ]
        refine wpAnyH_take (i := 2) (oi := { dst := some 36, op := Op.move (Operand.tmp 6), type := 3, pos := "base.go:687", after := #[], guard := none }) (v := .int .i64 (n : Int)) rfl (by kernel_rfl) (by kernel_rfl) (by kernel_rfl) (fun _ _ _ h => h) (Or.inl ⟨by kernel_rfl, fun W h => (by first | kernel_rfl | go_simp)⟩) trivial ?_
        try simp only [Act.put, List.setIfInBounds_toArray, List.set_cons_zero, List.set_cons_succ]
        refine wpAnyH_take (i := 3) (oi := { dst := some 37, op := Op.binOp BinOp.quo 3 (Operand.tmp 36) (Operand.const (Value.int IntKind.i64 16)) 3, type := 3, pos := "base.go:687", after := #[{ on := 2, ground := Ground.data }], guard := none }) (v := .int .i64 ((n / 16 : Nat) : Int)) rfl (by kernel_rfl) (by kernel_rfl) (by kernel_rfl) (fun _ _ _ h => h) (Or.inl ⟨by kernel_rfl, fun W h => quoT (.tmp 36) (by kernel_rfl) (by kernel_rfl) hc (by kernel_rfl) W⟩) trivial ?_
        try simp only [Act.put, List.setIfInBounds_toArray, List.set_cons_zero, List.set_cons_succ]
        refine wpAnyH_take (i := 4) (oi := { dst := some 38, op := Op.move (Operand.tmp 6), type := 3, pos := "base.go:687", after := #[], guard := none }) (v := .int .i64 (n : Int)) rfl (by kernel_rfl) (by kernel_rfl) (by kernel_rfl) (fun _ _ _ h => h) (Or.inl ⟨by kernel_rfl, fun W h => (by first | kernel_rfl | go_simp)⟩) trivial ?_
        try simp only [Act.put, List.setIfInBounds_toArray, List.set_cons_zero, List.set_cons_succ]
        refine wpAnyH_take (i := 5) (oi := { dst := some 39, op := Op.binOp BinOp.quo 3 (Operand.tmp 38) (Operand.const (Value.int IntKind.i64 16)) 3, type := 3, pos := "base.go:687", after := #[{ on := 4, ground := Ground.data }], guard := none }) (v := .int .i64 ((n / 16 : Nat) : Int)) rfl (by kernel_rfl) (by kernel_rfl) (by kernel_rfl) (fun _ _ _ h => h) (Or.inl ⟨by kernel_rfl, fun W h => quoT (.tmp 38) (by kernel_rfl) (by kernel_rfl) hc (by kernel_rfl) W⟩) trivial ?_
        try simp only [Act.put, List.setIfInBounds_toArray, List.set_cons_zero, List.set_cons_succ]
        refine wpAnyH_take (i := 6) (oi := { dst := some 40, op := Op.binOp BinOp.add 3 (Operand.tmp 39) (Operand.const (Value.int IntKind.i64 1)) 3, type := 3, pos := "base.go:687", after := #[{ on := 5, ground := Ground.data }], guard := none }) (v := .int .i64 ((n / 16 + 1 : Nat) : Int)) rfl (by kernel_rfl) (by kernel_rfl) (by kernel_rfl) (fun _ _ _ h => h) (Or.inl ⟨by kernel_rfl, fun W h => addT (.tmp 39) (by kernel_rfl) (by kernel_rfl) (by omega) (by kernel_rfl) W⟩) trivial ?_
        try simp only [Act.put, List.setIfInBounds_toArray, List.set_cons_zero, List.set_cons_succ]
        refine wpAnyH_take (i := 7) (oi := { dst := some 41, op := Op.slice 9 (Operand.tmp 35) (some (Operand.tmp 37)) (some (Operand.tmp 40)) none, type := 9, pos := "base.go:687", after := #[{ on := 1, ground := Ground.data }, { on := 3, ground := Ground.data }, { on := 6, ground := Ground.data }], guard := none }) (v := .string (mkb [Txt.hexc (n / 16)])) rfl (by kernel_rfl) (by kernel_rfl) (by kernel_rfl) (fun _ _ _ h => h) (Or.inl ⟨by kernel_rfl, fun W h => digT (.tmp 35) (.tmp 37) (.tmp 40) (by kernel_rfl) (by kernel_rfl) (show n / 16 < 16 by omega) (by kernel_rfl) (by kernel_rfl) W⟩) trivial ?_
        try simp only [Act.put, List.setIfInBounds_toArray, List.set_cons_zero, List.set_cons_succ]
        refine wpAnyH_take (i := 8) (oi := { dst := some 42, op := Op.binOp BinOp.add 9 (Operand.const (Value.string { data := #[92] })) (Operand.tmp 41) 9, type := 9, pos := "base.go:687", after := #[{ on := 7, ground := Ground.data }], guard := none }) (v := .string (mkb ([92] ++ [Txt.hexc (n / 16)]))) rfl (by kernel_rfl) (by kernel_rfl) (by kernel_rfl) (fun _ _ _ h => h) (Or.inl ⟨by kernel_rfl, fun W h => catT (.const (.string ⟨#[92]⟩)) (.tmp 41) (by kernel_rfl) (a := [92]) (by kernel_rfl) (by kernel_rfl) (by simp) W⟩) trivial ?_
        try simp only [Act.put, List.setIfInBounds_toArray, List.set_cons_zero, List.set_cons_succ]
        refine wpAnyH_take (i := 9) (oi := { dst := some 43, op := Op.move (Operand.tmp 3), type := 9, pos := "base.go:687", after := #[], guard := none }) (v := .string ⟨#[48, 49, 50, 51, 52, 53, 54, 55, 56, 57, 97, 98, 99, 100, 101, 102]⟩) rfl (by kernel_rfl) (by kernel_rfl) (by kernel_rfl) (fun _ _ _ h => h) (Or.inl ⟨by kernel_rfl, fun W h => (by first | kernel_rfl | go_simp)⟩) trivial ?_
        try simp only [Act.put, List.setIfInBounds_toArray, List.set_cons_zero, List.set_cons_succ]
        refine wpAnyH_take (i := 10) (oi := { dst := some 44, op := Op.move (Operand.tmp 6), type := 3, pos := "base.go:687", after := #[], guard := none }) (v := .int .i64 (n : Int)) rfl (by kernel_rfl) (by kernel_rfl) (by kernel_rfl) (fun _ _ _ h => h) (Or.inl ⟨by kernel_rfl, fun W h => (by first | kernel_rfl | go_simp)⟩) trivial ?_
        try simp only [Act.put, List.setIfInBounds_toArray, List.set_cons_zero, List.set_cons_succ]
        refine wpAnyH_take (i := 11) (oi := { dst := some 45, op := Op.binOp BinOp.rem 3 (Operand.tmp 44) (Operand.const (Value.int IntKind.i64 16)) 3, type := 3, pos := "base.go:687", after := #[{ on := 10, ground := Ground.data }], guard := none }) (v := .int .i64 ((n % 16 : Nat) : Int)) rfl (by kernel_rfl) (by kernel_rfl) (by kernel_rfl) (fun _ _ _ h => h) (Or.inl ⟨by kernel_rfl, fun W h => remT (.tmp 44) (by kernel_rfl) (by kernel_rfl) hc (by kernel_rfl) W⟩) trivial ?_
        try simp only [Act.put, List.setIfInBounds_toArray, List.set_cons_zero, List.set_cons_succ]
        refine wpAnyH_take (i := 12) (oi := { dst := some 46, op := Op.move (Operand.tmp 6), type := 3, pos := "base.go:687", after := #[], guard := none }) (v := .int .i64 (n : Int)) rfl (by kernel_rfl) (by kernel_rfl) (by kernel_rfl) (fun _ _ _ h => h) (Or.inl ⟨by kernel_rfl, fun W h => (by first | kernel_rfl | go_simp)⟩) trivial ?_
        try simp only [Act.put, List.setIfInBounds_toArray, List.set_cons_zero, List.set_cons_succ]
        refine wpAnyH_take (i := 13) (oi := { dst := some 47, op := Op.binOp BinOp.rem 3 (Operand.tmp 46) (Operand.const (Value.int IntKind.i64 16)) 3, type := 3, pos := "base.go:687", after := #[{ on := 12, ground := Ground.data }], guard := none }) (v := .int .i64 ((n % 16 : Nat) : Int)) rfl (by kernel_rfl) (by kernel_rfl) (by kernel_rfl) (fun _ _ _ h => h) (Or.inl ⟨by kernel_rfl, fun W h => remT (.tmp 46) (by kernel_rfl) (by kernel_rfl) hc (by kernel_rfl) W⟩) trivial ?_
        try simp only [Act.put, List.setIfInBounds_toArray, List.set_cons_zero, List.set_cons_succ]
        refine wpAnyH_take (i := 14) (oi := { dst := some 48, op := Op.binOp BinOp.add 3 (Operand.tmp 47) (Operand.const (Value.int IntKind.i64 1)) 3, type := 3, pos := "base.go:687", after := #[{ on := 13, ground := Ground.data }], guard := none }) (v := .int .i64 ((n % 16 + 1 : Nat) : Int)) rfl (by kernel_rfl) (by kernel_rfl) (by kernel_rfl) (fun _ _ _ h => h) (Or.inl ⟨by kernel_rfl, fun W h => addT (.tmp 47) (by kernel_rfl) (by kernel_rfl) (by omega) (by kernel_rfl) W⟩) trivial ?_
        try simp only [Act.put, List.setIfInBounds_toArray, List.set_cons_zero, List.set_cons_succ]
        refine wpAnyH_take (i := 15) (oi := { dst := some 49, op := Op.slice 9 (Operand.tmp 43) (some (Operand.tmp 45)) (some (Operand.tmp 48)) none, type := 9, pos := "base.go:687", after := #[{ on := 9, ground := Ground.data }, { on := 11, ground := Ground.data }, { on := 14, ground := Ground.data }], guard := none }) (v := .string (mkb [Txt.hexc (n % 16)])) rfl (by kernel_rfl) (by kernel_rfl) (by kernel_rfl) (fun _ _ _ h => h) (Or.inl ⟨by kernel_rfl, fun W h => digT (.tmp 43) (.tmp 45) (.tmp 48) (by kernel_rfl) (by kernel_rfl) (show n % 16 < 16 by omega) (by kernel_rfl) (by kernel_rfl) W⟩) trivial ?_
        try simp only [Act.put, List.setIfInBounds_toArray, List.set_cons_zero, List.set_cons_succ]
        refine wpAnyH_take (i := 16) (oi := { dst := some 50, op := Op.binOp BinOp.add 9 (Operand.tmp 42) (Operand.tmp 49) 9, type := 9, pos := "base.go:687", after := #[{ on := 8, ground := Ground.data }, { on := 15, ground := Ground.data }], guard := none }) (v := .string (mkb ([92] ++ [Txt.hexc (n / 16)] ++ [Txt.hexc (n % 16)]))) rfl (by kernel_rfl) (by kernel_rfl) (by kernel_rfl) (fun _ _ _ h => h) (Or.inl ⟨by kernel_rfl, fun W h => catT (.tmp 42) (.tmp 49) (by kernel_rfl) (by kernel_rfl) (by kernel_rfl) (by simp) W⟩) trivial ?_
        try simp only [Act.put, List.setIfInBounds_toArray, List.set_cons_zero, List.set_cons_succ]
        refine wpAnyH_take (i := 17) (oi := { dst := some 51, op := Op.binOp BinOp.add 9 (Operand.tmp 34) (Operand.tmp 50) 9, type := 9, pos := "base.go:687", after := #[{ on := 0, ground := Ground.data }, { on := 16, ground := Ground.data }], guard := none }) (v := .string (mkb (A ++ ([92] ++ [Txt.hexc (n / 16)] ++ [Txt.hexc (n % 16)])))) rfl (by kernel_rfl) (by kernel_rfl) (by kernel_rfl) (fun _ _ _ h => h) (Or.inl ⟨by kernel_rfl, fun W h => catT (.tmp 34) (.tmp 50) (by kernel_rfl) (by kernel_rfl) (by kernel_rfl) (by simp; omega) W⟩) trivial ?_
        try simp only [Act.put, List.setIfInBounds_toArray, List.set_cons_zero, List.set_cons_succ]
        refine wpAnyH_take (i := 18) (oi := { dst := some 4, op := Op.assign (Operand.tmp 51), type := 9, pos := "base.go:687", after := #[{ on := 17, ground := Ground.data }, { on := 0, ground := Ground.phase }, { on := 1, ground := Ground.phase }, { on := 2, ground := Ground.phase }, { on := 3, ground := Ground.phase }, { on := 4, ground := Ground.phase }, { on := 5, ground := Ground.phase }, { on := 6, ground := Ground.phase }, { on := 7, ground := Ground.phase }, { on := 8, ground := Ground.phase }, { on := 9, ground := Ground.phase }, { on := 10, ground := Ground.phase }, { on := 11, ground := Ground.phase }, { on := 12, ground := Ground.phase }, { on := 13, ground := Ground.phase }, { on := 14, ground := Ground.phase }, { on := 15, ground := Ground.phase }, { on := 16, ground := Ground.phase }, { on := 17, ground := Ground.phase }], guard := none }) (v := .string (mkb (A ++ ([92] ++ [Txt.hexc (n / 16)] ++ [Txt.hexc (n % 16)])))) rfl (by kernel_rfl) (by kernel_rfl) (by kernel_rfl) (fun _ _ _ h => h) (Or.inl ⟨by kernel_rfl, fun W h => (by first | kernel_rfl | go_simp)⟩) trivial ?_
        try simp only [Act.put, List.setIfInBounds_toArray, List.set_cons_zero, List.set_cons_succ]
        refine wpAnyH_done (by kernel_rfl) ?_ _
        clear hS
        have B2 := hide (unhide BR).drew
        go_wp2_with fail
        go_roundw
        case rel => exact ⟨k + 1, by omega, by go_num, by rw [unhide EO], B2⟩
        case measure => simp [intOf]; omega
end Go.Proofs.YtlbgkpibaahglacDoor
