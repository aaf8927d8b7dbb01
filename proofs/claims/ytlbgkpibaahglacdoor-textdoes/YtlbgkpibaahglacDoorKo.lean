/-
  The walk of eiderdownref.TextOf. (Written by genko.py.)
-/
import Derived.Test.YtlbgkpibaahglacDoorKm
import Derived.Test.YtlbgkpibaahglacDoorKf
import Derived.Test.YtlbgkpibaahglacDoorTg
import Derived.Test.YtlbgkpibaahglacDoorTp
import Derived.Test.YtlbgkpibaahglacDoorWm
set_option linter.unusedVariables false
namespace Go.Proofs.YtlbgkpibaahglacDoor
open Go.RowKit
theorem in8_row {cs : Array Value} {m : Img} (h : IsImg cs m) {n : Nat} (hn : n < 8) : cs.extract (n * 5) (n * 5 + 5) = #[.bool (m.live n), .int .i64 (m.stamp n), .int .i64 (m.links n), .int .i64 (m.part n 0), .int .i64 (m.part n 1)] :=
  cut5 (h.live n hn) (h.stamp n hn) (h.links n hn) (h.part n 0 hn (by omega)) (h.part n 1 hn (by omega))
theorem en8_row {cs : Array Value} {m : Img} (h : IsImg cs m) {d s : Nat} (hd : d < 3) (hs : s < 4) : cs.extract (40 + d * 12 + s * 3) (40 + d * 12 + s * 3 + 3) = #[.string (m.name d s), .int .i64 (m.ino d s), .int .i64 (m.est d s)] :=
  cut3 (h.name d s hd hs) (h.ino d s hd hs) (h.est d s hd hs)
theorem in8_under : Tryd.prog.underlying 24 = some (.struct (Tryd.prog.fieldsOf 24)) := by kernel_rfl
theorem en8_under : Tryd.prog.underlying 27 = some (.struct (Tryd.prog.fieldsOf 27)) := by kernel_rfl
theorem in8_cells : (Tryd.prog.info? 24).map (·.size) = some 5 := by kernel_rfl
theorem en8_cells : (Tryd.prog.info? 27).map (·.size) = some 3 := by kernel_rfl
def inZ8 : Array Value := #[.bool false, .int .i64 0, .int .i64 0, .int .i64 0, .int .i64 0]
theorem zero_in8 (w : World) : (zeroValue 24).run Tryd.prog w = .ok (.agg inZ8) w := by kernel_rfl
def enZ8 : Array Value := #[.string ⟨#[]⟩, .int .i64 0, .int .i64 0]
theorem zero_en8 (w : World) : (zeroValue 27).run Tryd.prog w = .ok (.agg enZ8) w := by kernel_rfl
theorem ix8_data {o : Oper} {ρ : Operand → Value} (x y : Operand) (ho : o.op = .indexAddr 32 x y) {g j : Nat} (hx : ρ x = .pointer (some ⟨g, 76, none⟩)) (hy : ρ y = .int .i64 ((j : Nat) : Int)) (hj : j < 9) (w : World) : (execOp ρ o).run Tryd.prog w = .ok (.value (.pointer (some ⟨g, 76 + j * 2, none⟩))) w := by
  have jz : (j : Int) < 9 := by omega
  unfold execOp
  rw [ho]
  go_simp
theorem catV {o : Oper} {ρ : Operand → Value} (x y : Operand) (ho : o.op = .binOp .add 9 x y 9) {a b c : List UInt8} (hx : ρ x = .string (mkb a)) (hy : ρ y = .string (mkb b)) (hv : a ++ b = c) (hc : c.length ≤ 1000000000) (w : World) : (execOp ρ o).run Tryd.prog w = .ok (.value (.string (mkb c))) w := by
  subst hv
  exact catT x y ho hx hy (by rw [List.length_append] at hc; exact hc) w
/-- a world that has grown by calls alone, behind a region's start -/
theorem num_in {w V : World} (hb : Below w.heap.size w V) (ht : Tab w) {z : Int} (hz : I64 z) {L : List UInt8} (hL : Lib.itoa z = L) :
    Calls Tryd.prog 20 #[.int .i64 z] V fun e w' => e = .returned (.string (mkb L)) ∧ Below w.heap.size w w' := by
  rw [← hL]; exact num_any hb ht hz
set_option maxHeartbeats 2000000 in
set_option maxRecDepth 100000 in
theorem TextOf_any (g : Nat) (cs : Array Value) (m : Img) (w : World) (hr : w.heap[g]? = some (.cells cs 34)) (hi : IsImg cs m) (f : Fine m) (ht : Tab w) :
    Calls Tryd.prog 10 #[.pointer (some ⟨g, 0, none⟩)] w fun e w' => e = .returned (.string (mkb (Txt.printed m))) ∧ Below w.heap.size w w' := by
  have hg := (Array.getElem?_eq_some_iff.1 hr).1
  have HR := hide hr
  have FF := hide f
  have HT := hide ht
  have GL := hide hg
  have TL := hide (tab_lt ht)
  have HM := hide (has_of_row hr hi)
  have zs := hi.size
  clear hr ht f
  go_enter Tryd.func10, Tryd.ntmps10
  go_wp2_with fail
  go_loopw [3, 4] (fun o i wr => ∃ n : Nat, n ≤ 8 ∧ i = .int .i64 n ∧ o = .string (mkb (Txt.stream (Txt.linesI m n))) ∧ Hid (Below w.heap.size w wr) ∧ Hid ((Txt.stream (Txt.linesI m n)).length ≤ 400000 * n)) (fun _ i _ => 8 - (intOf i).toNat)
  case atStart => exact ⟨0, Nat.zero_le _, rfl, rfl, hide (Below.refl _ _), hide (Nat.le_refl _)⟩
  case round =>
    obtain ⟨n, hn, rfl, rfl, BW, LW⟩ := hrel
    by_cases hlt : n < 8
    case pos =>
      have jn : (n : Int) < 8 := by omega
      have zN := zero_in8
      have hle : n * 5 + 5 ≤ cs.size := by rw [zs]; omega
      have r1 := hide (show wr.heap[g]? = some (.cells cs 34) by rw [(unhide BW).block g (unhide GL)]; exact unhide HR)
      have s1 := hide (heap_alloc_last wr (.cells inZ8 24))
      have BA := hide (below_setRow ((Below.refl wr.heap.size wr).alloc (Nat.le_refl _) (.cells inZ8 24)) (Nat.le_refl wr.heap.size) #[.bool (m.live n), .int .i64 (m.stamp n), .int .i64 (m.links n), .int .i64 (m.part n 0), .int .i64 (m.part n 1)])
      have RA := hide (setRow_heap (wr.alloc (.cells inZ8 24)) wr.heap.size _ #[.bool (m.live n), .int .i64 (m.stamp n), .int .i64 (m.links n), .int .i64 (m.part n 0), .int .i64 (m.part n 1)] _ _ (heap_alloc_last wr (.cells inZ8 24)))
      go_upto_region 6 with (first | (have hx := unhide r1; refine wpList_load_part rfl 24 _ rfl g (n * 5) 5 rfl 34 cs _ hx in8_under rfl in8_cells hle ?_; rw [in8_row hi hlt]; clear hx r1) | (have hx := unhide s1; refine wpList_store_row rfl 24 _ _ rfl wr.heap.size #[.bool (m.live n), .int .i64 (m.stamp n), .int .i64 (m.links n), .int .i64 (m.part n 0), .int .i64 (m.part n 1)] rfl rfl 24 inZ8 hx in8_cells rfl (by kernel_rfl) ?_; clear hx s1))
      try simp only [Act.put]
      generalize (wr.alloc (.cells inZ8 24)).setRow wr.heap.size #[.bool (m.live n), .int .i64 (m.stamp n), .int .i64 (m.links n), .int .i64 (m.part n 0), .int .i64 (m.part n 1)] = XW at BA RA ⊢
      have BX := hide (show Below w.heap.size w XW from (unhide BW).trans ((unhide BA).mono (unhide BW).size))
      generalize wr.heap.size = gi at RA ⊢
      have e0 : XW.cell? ⟨gi, 0, none⟩ = some (.bool (m.live n)) := by rw [Lib.cell_of_heap (unhide RA)]; rfl
      have c1 : XW.cell? ⟨gi, 1, none⟩ = some (.int .i64 (m.stamp n)) := by rw [Lib.cell_of_heap (unhide RA)]; rfl
      have c2 : XW.cell? ⟨gi, 2, none⟩ = some (.int .i64 (m.links n)) := by rw [Lib.cell_of_heap (unhide RA)]; rfl
      have c3 : XW.cell? ⟨gi, 3, none⟩ = some (.int .i64 (m.part n 0)) := by rw [Lib.cell_of_heap (unhide RA)]; rfl
      have c4 : XW.cell? ⟨gi, 4, none⟩ = some (.int .i64 (m.part n 1)) := by rw [Lib.cell_of_heap (unhide RA)]; rfl
      have gl : gi < XW.heap.size := (Array.getElem?_eq_some_iff.1 (unhide RA)).1
      clear BA RA zN hle BW
      cases hl : m.live n <;> rw [hl] at e0
      case false =>
        have E := hide (Txt.linesI_no hl)
        clear hl
        go_wp2_with fail
        go_roundw
        case rel => exact ⟨n + 1, by omega, by go_num, by rw [unhide E], BX, hide (by have := unhide LW; rw [unhide E]; omega)⟩
        case measure => simp [intOf]; omega
      case true =>
        obtain ⟨X, hX⟩ : ∃ X, Lib.itoa (n : Int) = X := ⟨_, rfl⟩
        obtain ⟨O, hO⟩ : ∃ X, Lib.itoa (m.stamp n) = X := ⟨_, rfl⟩
        obtain ⟨E, hE⟩ : ∃ X, Lib.itoa (m.links n) = X := ⟨_, rfl⟩
        obtain ⟨P, hP⟩ : ∃ X, Lib.itoa (m.part n 0) = X := ⟨_, rfl⟩
        obtain ⟨Q, hQ⟩ : ∃ X, Lib.itoa (m.part n 1) = X := ⟨_, rfl⟩
        have tx : Tab XW := tab_block (unhide HT) ((unhide BX).block 1 (unhide TL))
        have N0 := hide (fun V (hb : Below XW.heap.size XW V) => num_in hb tx (I64.nat (n := n) (by omega)) hX)
        have N1 := hide (fun V (hb : Below XW.heap.size XW V) => num_in hb tx ((unhide FF).stamp n hlt) hO)
        have N2 := hide (fun V (hb : Below XW.heap.size XW V) => num_in hb tx ((unhide FF).links n hlt) hE)
        have N3 := hide (fun V (hb : Below XW.heap.size XW V) => num_in hb tx ((unhide FF).part n 0 hlt (by omega)) hP)
        have N4 := hide (fun V (hb : Below XW.heap.size XW V) => num_in hb tx ((unhide FF).part n 1 hlt (by omega)) hQ)
        have lx : X.length ≤ 21 := by rw [← hX]; exact itoa_len (I64.nat (n := n) (by omega))
        have lo : O.length ≤ 21 := by rw [← hO]; exact itoa_len ((unhide FF).stamp n hlt)
        have lE : E.length ≤ 21 := by rw [← hE]; exact itoa_len ((unhide FF).links n hlt)
        have lp : P.length ≤ 21 := by rw [← hP]; exact itoa_len ((unhide FF).part n 0 hlt (by omega))
        have lq : Q.length ≤ 21 := by rw [← hQ]; exact itoa_len ((unhide FF).part n 1 hlt (by omega))
        have LE := hide (ino_le (unhide FF) hlt)
        have EL := hide (Txt.linesI_yes hl)
        have la := unhide LW
        obtain ⟨A, hA⟩ : ∃ A, A = Txt.stream (Txt.linesI m n) := ⟨_, rfl⟩
        rw [← hA] at la
        obtain ⟨z1, hz1⟩ : ∃ z : List UInt8, [105, 110, 111, 100, 101, 32] ++ X = z := ⟨_, rfl⟩
        have m1 : z1.length = 6 + X.length := by rw [← hz1, List.length_append]; rfl
        obtain ⟨z2, hz2⟩ : ∃ z : List UInt8, z1 ++ [32] = z := ⟨_, rfl⟩
        have m2 : z2.length = z1.length + 1 := by rw [← hz2, List.length_append]; rfl
        obtain ⟨z3, hz3⟩ : ∃ z : List UInt8, z2 ++ O = z := ⟨_, rfl⟩
        have m3 : z3.length = z2.length + O.length := by rw [← hz3, List.length_append]
        obtain ⟨z4, hz4⟩ : ∃ z : List UInt8, z3 ++ [32] = z := ⟨_, rfl⟩
        have m4 : z4.length = z3.length + 1 := by rw [← hz4, List.length_append]; rfl
        obtain ⟨z5, hz5⟩ : ∃ z : List UInt8, z4 ++ E = z := ⟨_, rfl⟩
        have m5 : z5.length = z4.length + E.length := by rw [← hz5, List.length_append]
        obtain ⟨z6, hz6⟩ : ∃ z : List UInt8, z5 ++ [32] = z := ⟨_, rfl⟩
        have m6 : z6.length = z5.length + 1 := by rw [← hz6, List.length_append]; rfl
        obtain ⟨z7, hz7⟩ : ∃ z : List UInt8, z6 ++ P = z := ⟨_, rfl⟩
        have m7 : z7.length = z6.length + P.length := by rw [← hz7, List.length_append]
        obtain ⟨z8, hz8⟩ : ∃ z : List UInt8, z7 ++ [32] = z := ⟨_, rfl⟩
        have m8 : z8.length = z7.length + 1 := by rw [← hz8, List.length_append]; rfl
        obtain ⟨z9, hz9⟩ : ∃ z : List UInt8, z8 ++ Q = z := ⟨_, rfl⟩
        have m9 : z9.length = z8.length + Q.length := by rw [← hz9, List.length_append]
        obtain ⟨z10, hz10⟩ : ∃ z : List UInt8, z9 ++ [10] = z := ⟨_, rfl⟩
        have m10 : z10.length = z9.length + 1 := by rw [← hz10, List.length_append]; rfl
        obtain ⟨zA, hzA⟩ : ∃ z : List UInt8, A ++ z10 = z := ⟨_, rfl⟩
        have mA : zA.length ≤ 900000000 := by rw [← hzA, List.length_append]; omega
        have EE := hide (show Txt.stream (Txt.linesI m (n + 1)) = zA by
          rw [Txt.linesI_yes hl, ← hA, ← hzA, ← hz10, ← hz9, ← hz8, ← hz7, ← hz6, ← hz5, ← hz4, ← hz3, ← hz2, ← hz1]
          congr 1
          unfold Txt.inoW
          rw [hX, hO, hE, hP, hQ]
          simp [Txt.line, Txt.tailW])
        have Z1 := hide hz1
        clear hz1
        have Z2 := hide hz2
        clear hz2
        have Z3 := hide hz3
        clear hz3
        have Z4 := hide hz4
        clear hz4
        have Z5 := hide hz5
        clear hz5
        have Z6 := hide hz6
        clear hz6
        have Z7 := hide hz7
        clear hz7
        have Z8 := hide hz8
        clear hz8
        have Z9 := hide hz9
        clear hz9
        have Z10 := hide hz10
        clear hz10
        have ZA := hide hzA
        clear hzA
        clear hl hX hO hE hP hQ tx
        have b0 : Below XW.heap.size XW XW.drew := (Below.refl _ XW).drew
        have L2 := hide (show (Txt.stream (Txt.linesI m (n + 1))).length ≤ 400000 * (n + 1) by rw [unhide EL, List.length_append]; have := unhide LE; have := unhide LW; omega)
        rw [← hA]
        clear hA
        go_upto_region 7 with fail
        refine wp_region_held_drew (S := fun (V : World) => Below XW.heap.size XW V) (by kernel_rfl) (b0) (fun hS => ?_)
        refine wpAnyH_take (i := 0) (oi := { dst := some 22, op := Op.move (Operand.tmp 3), type := 9, pos := "base.go:723", after := #[], guard := none }) (v := .string (mkb A)) rfl (by kernel_rfl) (by kernel_rfl) (by kernel_rfl) (fun _ _ _ h => h) (Or.inl ⟨by kernel_rfl, fun W h => (by first | kernel_rfl | go_simp)⟩) b0 ?_
        try simp only [Act.put, List.setIfInBounds_toArray, List.set_cons_zero, List.set_cons_succ]
        refine wpAnyH_take (i := 1) (oi := { dst := some 23, op := Op.move (Operand.tmp 4), type := 3, pos := "base.go:723", after := #[], guard := none }) (v := .int .i64 (n : Int)) rfl (by kernel_rfl) (by kernel_rfl) (by kernel_rfl) (fun _ _ _ h => h) (Or.inl ⟨by kernel_rfl, fun W h => (by first | kernel_rfl | go_simp)⟩) b0 ?_
        try simp only [Act.put, List.setIfInBounds_toArray, List.set_cons_zero, List.set_cons_succ]
        refine wpAnyH_take (i := 5) (oi := { dst := some 27, op := Op.fieldAddr 24 (Operand.tmp 5) 1, type := 0, pos := "base.go:723", after := #[], guard := none }) (v := .pointer (some ⟨gi, 1, none⟩)) rfl (by kernel_rfl) (by kernel_rfl) (by kernel_rfl) (fun _ _ _ h => h) (Or.inl ⟨by kernel_rfl, fun W h => (by first | kernel_rfl | go_simp)⟩) b0 ?_
        try simp only [Act.put, List.setIfInBounds_toArray, List.set_cons_zero, List.set_cons_succ]
        refine wpAnyH_take (i := 6) (oi := { dst := some 28, op := Op.load 3 (Operand.tmp 27), type := 3, pos := "base.go:723", after := #[{ on := 5, ground := Ground.data }], guard := none }) (v := .int .i64 (m.stamp n)) rfl (by kernel_rfl) (by kernel_rfl) (by kernel_rfl) (fun _ _ _ h => h) (Or.inl ⟨by kernel_rfl, fun W h => ld_i (.tmp 27) (by kernel_rfl) (by kernel_rfl) W (below_cell h gl c1)⟩) b0 ?_
        try simp only [Act.put, List.setIfInBounds_toArray, List.set_cons_zero, List.set_cons_succ]
        refine wpAnyH_take (i := 10) (oi := { dst := some 32, op := Op.fieldAddr 24 (Operand.tmp 5) 2, type := 0, pos := "base.go:723", after := #[], guard := none }) (v := .pointer (some ⟨gi, 2, none⟩)) rfl (by kernel_rfl) (by kernel_rfl) (by kernel_rfl) (fun _ _ _ h => h) (Or.inl ⟨by kernel_rfl, fun W h => (by first | kernel_rfl | go_simp)⟩) b0 ?_
        try simp only [Act.put, List.setIfInBounds_toArray, List.set_cons_zero, List.set_cons_succ]
        refine wpAnyH_take (i := 11) (oi := { dst := some 33, op := Op.load 3 (Operand.tmp 32), type := 3, pos := "base.go:723", after := #[{ on := 10, ground := Ground.data }], guard := none }) (v := .int .i64 (m.links n)) rfl (by kernel_rfl) (by kernel_rfl) (by kernel_rfl) (fun _ _ _ h => h) (Or.inl ⟨by kernel_rfl, fun W h => ld_i (.tmp 32) (by kernel_rfl) (by kernel_rfl) W (below_cell h gl c2)⟩) b0 ?_
        try simp only [Act.put, List.setIfInBounds_toArray, List.set_cons_zero, List.set_cons_succ]
        refine wpAnyH_take (i := 15) (oi := { dst := some 37, op := Op.fieldAddr 24 (Operand.tmp 5) 3, type := 0, pos := "base.go:723", after := #[], guard := none }) (v := .pointer (some ⟨gi, 3, none⟩)) rfl (by kernel_rfl) (by kernel_rfl) (by kernel_rfl) (fun _ _ _ h => h) (Or.inl ⟨by kernel_rfl, fun W h => (by first | kernel_rfl | go_simp)⟩) b0 ?_
        try simp only [Act.put, List.setIfInBounds_toArray, List.set_cons_zero, List.set_cons_succ]
        refine wpAnyH_take (i := 16) (oi := { dst := some 38, op := Op.indexAddr 22 (Operand.tmp 37) (Operand.const (Value.int IntKind.i64 0)), type := 0, pos := "base.go:723", after := #[{ on := 15, ground := Ground.data }], guard := none }) (v := .pointer (some ⟨gi, 3, none⟩)) rfl (by kernel_rfl) (by kernel_rfl) (by kernel_rfl) (fun _ _ _ h => h) (Or.inl ⟨by kernel_rfl, fun W h => (by first | kernel_rfl | go_simp)⟩) b0 ?_
        try simp only [Act.put, List.setIfInBounds_toArray, List.set_cons_zero, List.set_cons_succ]
        refine wpAnyH_take (i := 17) (oi := { dst := some 39, op := Op.load 3 (Operand.tmp 38), type := 3, pos := "base.go:723", after := #[{ on := 16, ground := Ground.data }], guard := none }) (v := .int .i64 (m.part n 0)) rfl (by kernel_rfl) (by kernel_rfl) (by kernel_rfl) (fun _ _ _ h => h) (Or.inl ⟨by kernel_rfl, fun W h => ld_i (.tmp 38) (by kernel_rfl) (by kernel_rfl) W (below_cell h gl c3)⟩) b0 ?_
        try simp only [Act.put, List.setIfInBounds_toArray, List.set_cons_zero, List.set_cons_succ]
        refine wpAnyH_take (i := 21) (oi := { dst := some 43, op := Op.fieldAddr 24 (Operand.tmp 5) 3, type := 0, pos := "base.go:723", after := #[], guard := none }) (v := .pointer (some ⟨gi, 3, none⟩)) rfl (by kernel_rfl) (by kernel_rfl) (by kernel_rfl) (fun _ _ _ h => h) (Or.inl ⟨by kernel_rfl, fun W h => (by first | kernel_rfl | go_simp)⟩) b0 ?_
        try simp only [Act.put, List.setIfInBounds_toArray, List.set_cons_zero, List.set_cons_succ]
        refine wpAnyH_take (i := 22) (oi := { dst := some 44, op := Op.indexAddr 22 (Operand.tmp 43) (Operand.const (Value.int IntKind.i64 1)), type := 0, pos := "base.go:723", after := #[{ on := 21, ground := Ground.data }], guard := none }) (v := .pointer (some ⟨gi, 4, none⟩)) rfl (by kernel_rfl) (by kernel_rfl) (by kernel_rfl) (fun _ _ _ h => h) (Or.inl ⟨by kernel_rfl, fun W h => (by first | kernel_rfl | go_simp)⟩) b0 ?_
        try simp only [Act.put, List.setIfInBounds_toArray, List.set_cons_zero, List.set_cons_succ]
        refine wpAnyH_take (i := 23) (oi := { dst := some 45, op := Op.load 3 (Operand.tmp 44), type := 3, pos := "base.go:723", after := #[{ on := 22, ground := Ground.data }], guard := none }) (v := .int .i64 (m.part n 1)) rfl (by kernel_rfl) (by kernel_rfl) (by kernel_rfl) (fun _ _ _ h => h) (Or.inl ⟨by kernel_rfl, fun W h => ld_i (.tmp 44) (by kernel_rfl) (by kernel_rfl) W (below_cell h gl c4)⟩) b0 ?_
        try simp only [Act.put, List.setIfInBounds_toArray, List.set_cons_zero, List.set_cons_succ]
        refine wpAnyH_ready (rs := [2]) (by kernel_rfl) (by simp) ?_
        refine AllReadyH.cons (o := { dst := some 24, op := Op.call { callee := Callee.value (Operand.func 20), args := #[Operand.tmp 23], argTypes := #[3] }, type := 9, pos := "base.go:723", after := #[{ on := 1, ground := Ground.data }], guard := none }) rfl (fun K hK => ?_) AllReadyH.nil
        rw [if_pos (by kernel_rfl)]
        go_simp
        refine (unhide N0 _ b0).mono ?_
        rintro e v0 ⟨rfl, d0⟩
        go_wp2_with fail
        refine hK.out _ _ (d0) (fun _ => ?_)
        clear hK K
        try simp only [Act.put, List.setIfInBounds_toArray, List.set_cons_zero, List.set_cons_succ]
        refine wpAnyH_take (i := 3) (oi := { dst := some 25, op := Op.binOp BinOp.add 9 (Operand.const (Value.string { data := #[105, 110, 111, 100, 101, 32] })) (Operand.tmp 24) 9, type := 9, pos := "base.go:723", after := #[{ on := 2, ground := Ground.data }], guard := none }) (v := .string (mkb z1)) rfl (by kernel_rfl) (by kernel_rfl) (by kernel_rfl) (fun _ _ _ h => h) (Or.inl ⟨by kernel_rfl, fun W h => catV (.const (.string ⟨#[105, 110, 111, 100, 101, 32]⟩)) (.tmp 24) (by kernel_rfl) (a := [105, 110, 111, 100, 101, 32]) (by kernel_rfl) (by kernel_rfl) (unhide Z1) (by omega) W⟩) d0 ?_
        try simp only [Act.put, List.setIfInBounds_toArray, List.set_cons_zero, List.set_cons_succ]
        refine wpAnyH_take (i := 4) (oi := { dst := some 26, op := Op.binOp BinOp.add 9 (Operand.tmp 25) (Operand.const (Value.string { data := #[32] })) 9, type := 9, pos := "base.go:723", after := #[{ on := 3, ground := Ground.data }], guard := none }) (v := .string (mkb z2)) rfl (by kernel_rfl) (by kernel_rfl) (by kernel_rfl) (fun _ _ _ h => h) (Or.inl ⟨by kernel_rfl, fun W h => catV (.tmp 25) (.const (.string ⟨#[32]⟩)) (by kernel_rfl) (b := [32]) (by kernel_rfl) (by kernel_rfl) (unhide Z2) (by omega) W⟩) d0 ?_
        try simp only [Act.put, List.setIfInBounds_toArray, List.set_cons_zero, List.set_cons_succ]
        refine wpAnyH_ready (rs := [7]) (by kernel_rfl) (by simp) ?_
        refine AllReadyH.cons (o := { dst := some 29, op := Op.call { callee := Callee.value (Operand.func 20), args := #[Operand.tmp 28], argTypes := #[3] }, type := 9, pos := "base.go:723", after := #[{ on := 6, ground := Ground.data }, { on := 2, ground := Ground.chain }], guard := none }) rfl (fun K hK => ?_) AllReadyH.nil
        rw [if_pos (by kernel_rfl)]
        go_simp
        refine (unhide N1 _ d0).mono ?_
        rintro e v1 ⟨rfl, d1⟩
        clear d0
        go_wp2_with fail
        refine hK.out _ _ (d1) (fun _ => ?_)
        clear hK K
        try simp only [Act.put, List.setIfInBounds_toArray, List.set_cons_zero, List.set_cons_succ]
        refine wpAnyH_take (i := 8) (oi := { dst := some 30, op := Op.binOp BinOp.add 9 (Operand.tmp 26) (Operand.tmp 29) 9, type := 9, pos := "base.go:723", after := #[{ on := 4, ground := Ground.data }, { on := 7, ground := Ground.data }], guard := none }) (v := .string (mkb z3)) rfl (by kernel_rfl) (by kernel_rfl) (by kernel_rfl) (fun _ _ _ h => h) (Or.inl ⟨by kernel_rfl, fun W h => catV (.tmp 26) (.tmp 29) (by kernel_rfl) (by kernel_rfl) (by kernel_rfl) (unhide Z3) (by omega) W⟩) d1 ?_
        try simp only [Act.put, List.setIfInBounds_toArray, List.set_cons_zero, List.set_cons_succ]
        refine wpAnyH_take (i := 9) (oi := { dst := some 31, op := Op.binOp BinOp.add 9 (Operand.tmp 30) (Operand.const (Value.string { data := #[32] })) 9, type := 9, pos := "base.go:723", after := #[{ on := 8, ground := Ground.data }], guard := none }) (v := .string (mkb z4)) rfl (by kernel_rfl) (by kernel_rfl) (by kernel_rfl) (fun _ _ _ h => h) (Or.inl ⟨by kernel_rfl, fun W h => catV (.tmp 30) (.const (.string ⟨#[32]⟩)) (by kernel_rfl) (b := [32]) (by kernel_rfl) (by kernel_rfl) (unhide Z4) (by omega) W⟩) d1 ?_
        try simp only [Act.put, List.setIfInBounds_toArray, List.set_cons_zero, List.set_cons_succ]
        refine wpAnyH_ready (rs := [12]) (by kernel_rfl) (by simp) ?_
        refine AllReadyH.cons (o := { dst := some 34, op := Op.call { callee := Callee.value (Operand.func 20), args := #[Operand.tmp 33], argTypes := #[3] }, type := 9, pos := "base.go:723", after := #[{ on := 11, ground := Ground.data }, { on := 7, ground := Ground.chain }], guard := none }) rfl (fun K hK => ?_) AllReadyH.nil
        rw [if_pos (by kernel_rfl)]
        go_simp
        refine (unhide N2 _ d1).mono ?_
        rintro e v2 ⟨rfl, d2⟩
        clear d1
        go_wp2_with fail
        refine hK.out _ _ (d2) (fun _ => ?_)
        clear hK K
        try simp only [Act.put, List.setIfInBounds_toArray, List.set_cons_zero, List.set_cons_succ]
        refine wpAnyH_take (i := 13) (oi := { dst := some 35, op := Op.binOp BinOp.add 9 (Operand.tmp 31) (Operand.tmp 34) 9, type := 9, pos := "base.go:723", after := #[{ on := 9, ground := Ground.data }, { on := 12, ground := Ground.data }], guard := none }) (v := .string (mkb z5)) rfl (by kernel_rfl) (by kernel_rfl) (by kernel_rfl) (fun _ _ _ h => h) (Or.inl ⟨by kernel_rfl, fun W h => catV (.tmp 31) (.tmp 34) (by kernel_rfl) (by kernel_rfl) (by kernel_rfl) (unhide Z5) (by omega) W⟩) d2 ?_
        try simp only [Act.put, List.setIfInBounds_toArray, List.set_cons_zero, List.set_cons_succ]
        refine wpAnyH_take (i := 14) (oi := { dst := some 36, op := Op.binOp BinOp.add 9 (Operand.tmp 35) (Operand.const (Value.string { data := #[32] })) 9, type := 9, pos := "base.go:723", after := #[{ on := 13, ground := Ground.data }], guard := none }) (v := .string (mkb z6)) rfl (by kernel_rfl) (by kernel_rfl) (by kernel_rfl) (fun _ _ _ h => h) (Or.inl ⟨by kernel_rfl, fun W h => catV (.tmp 35) (.const (.string ⟨#[32]⟩)) (by kernel_rfl) (b := [32]) (by kernel_rfl) (by kernel_rfl) (unhide Z6) (by omega) W⟩) d2 ?_
        try simp only [Act.put, List.setIfInBounds_toArray, List.set_cons_zero, List.set_cons_succ]
        refine wpAnyH_ready (rs := [18]) (by kernel_rfl) (by simp) ?_
        refine AllReadyH.cons (o := { dst := some 40, op := Op.call { callee := Callee.value (Operand.func 20), args := #[Operand.tmp 39], argTypes := #[3] }, type := 9, pos := "base.go:723", after := #[{ on := 17, ground := Ground.data }, { on := 12, ground := Ground.chain }], guard := none }) rfl (fun K hK => ?_) AllReadyH.nil
        rw [if_pos (by kernel_rfl)]
        go_simp
        refine (unhide N3 _ d2).mono ?_
        rintro e v3 ⟨rfl, d3⟩
        clear d2
        go_wp2_with fail
        refine hK.out _ _ (d3) (fun _ => ?_)
        clear hK K
        try simp only [Act.put, List.setIfInBounds_toArray, List.set_cons_zero, List.set_cons_succ]
        refine wpAnyH_take (i := 19) (oi := { dst := some 41, op := Op.binOp BinOp.add 9 (Operand.tmp 36) (Operand.tmp 40) 9, type := 9, pos := "base.go:723", after := #[{ on := 14, ground := Ground.data }, { on := 18, ground := Ground.data }], guard := none }) (v := .string (mkb z7)) rfl (by kernel_rfl) (by kernel_rfl) (by kernel_rfl) (fun _ _ _ h => h) (Or.inl ⟨by kernel_rfl, fun W h => catV (.tmp 36) (.tmp 40) (by kernel_rfl) (by kernel_rfl) (by kernel_rfl) (unhide Z7) (by omega) W⟩) d3 ?_
        try simp only [Act.put, List.setIfInBounds_toArray, List.set_cons_zero, List.set_cons_succ]
        refine wpAnyH_take (i := 20) (oi := { dst := some 42, op := Op.binOp BinOp.add 9 (Operand.tmp 41) (Operand.const (Value.string { data := #[32] })) 9, type := 9, pos := "base.go:723", after := #[{ on := 19, ground := Ground.data }], guard := none }) (v := .string (mkb z8)) rfl (by kernel_rfl) (by kernel_rfl) (by kernel_rfl) (fun _ _ _ h => h) (Or.inl ⟨by kernel_rfl, fun W h => catV (.tmp 41) (.const (.string ⟨#[32]⟩)) (by kernel_rfl) (b := [32]) (by kernel_rfl) (by kernel_rfl) (unhide Z8) (by omega) W⟩) d3 ?_
        try simp only [Act.put, List.setIfInBounds_toArray, List.set_cons_zero, List.set_cons_succ]
        refine wpAnyH_ready (rs := [24]) (by kernel_rfl) (by simp) ?_
        refine AllReadyH.cons (o := { dst := some 46, op := Op.call { callee := Callee.value (Operand.func 20), args := #[Operand.tmp 45], argTypes := #[3] }, type := 9, pos := "base.go:723", after := #[{ on := 23, ground := Ground.data }, { on := 18, ground := Ground.chain }], guard := none }) rfl (fun K hK => ?_) AllReadyH.nil
        rw [if_pos (by kernel_rfl)]
        go_simp
        refine (unhide N4 _ d3).mono ?_
        rintro e v4 ⟨rfl, d4⟩
        clear d3
        go_wp2_with fail
        refine hK.out _ _ (d4) (fun _ => ?_)
        clear hK K
        try simp only [Act.put, List.setIfInBounds_toArray, List.set_cons_zero, List.set_cons_succ]
        refine wpAnyH_take (i := 25) (oi := { dst := some 47, op := Op.binOp BinOp.add 9 (Operand.tmp 42) (Operand.tmp 46) 9, type := 9, pos := "base.go:723", after := #[{ on := 20, ground := Ground.data }, { on := 24, ground := Ground.data }], guard := none }) (v := .string (mkb z9)) rfl (by kernel_rfl) (by kernel_rfl) (by kernel_rfl) (fun _ _ _ h => h) (Or.inl ⟨by kernel_rfl, fun W h => catV (.tmp 42) (.tmp 46) (by kernel_rfl) (by kernel_rfl) (by kernel_rfl) (unhide Z9) (by omega) W⟩) d4 ?_
        try simp only [Act.put, List.setIfInBounds_toArray, List.set_cons_zero, List.set_cons_succ]
        refine wpAnyH_take (i := 26) (oi := { dst := some 48, op := Op.binOp BinOp.add 9 (Operand.tmp 47) (Operand.const (Value.string { data := #[10] })) 9, type := 9, pos := "base.go:723", after := #[{ on := 25, ground := Ground.data }], guard := none }) (v := .string (mkb z10)) rfl (by kernel_rfl) (by kernel_rfl) (by kernel_rfl) (fun _ _ _ h => h) (Or.inl ⟨by kernel_rfl, fun W h => catV (.tmp 47) (.const (.string ⟨#[10]⟩)) (by kernel_rfl) (b := [10]) (by kernel_rfl) (by kernel_rfl) (unhide Z10) (by omega) W⟩) d4 ?_
        try simp only [Act.put, List.setIfInBounds_toArray, List.set_cons_zero, List.set_cons_succ]
        refine wpAnyH_take (i := 27) (oi := { dst := some 49, op := Op.binOp BinOp.add 9 (Operand.tmp 22) (Operand.tmp 48) 9, type := 9, pos := "base.go:723", after := #[{ on := 0, ground := Ground.data }, { on := 26, ground := Ground.data }], guard := none }) (v := .string (mkb zA)) rfl (by kernel_rfl) (by kernel_rfl) (by kernel_rfl) (fun _ _ _ h => h) (Or.inl ⟨by kernel_rfl, fun W h => catV (.tmp 22) (.tmp 48) (by kernel_rfl) (by kernel_rfl) (by kernel_rfl) (unhide ZA) (by omega) W⟩) d4 ?_
        try simp only [Act.put, List.setIfInBounds_toArray, List.set_cons_zero, List.set_cons_succ]
        refine wpAnyH_take (i := 28) (oi := { dst := some 3, op := Op.assign (Operand.tmp 49), type := 9, pos := "base.go:723", after := #[{ on := 27, ground := Ground.data }, { on := 24, ground := Ground.chain }, { on := 0, ground := Ground.phase }, { on := 1, ground := Ground.phase }, { on := 2, ground := Ground.phase }, { on := 3, ground := Ground.phase }, { on := 4, ground := Ground.phase }, { on := 5, ground := Ground.phase }, { on := 6, ground := Ground.phase }, { on := 7, ground := Ground.phase }, { on := 8, ground := Ground.phase }, { on := 9, ground := Ground.phase }, { on := 10, ground := Ground.phase }, { on := 11, ground := Ground.phase }, { on := 12, ground := Ground.phase }, { on := 13, ground := Ground.phase }, { on := 14, ground := Ground.phase }, { on := 15, ground := Ground.phase }, { on := 16, ground := Ground.phase }, { on := 17, ground := Ground.phase }, { on := 18, ground := Ground.phase }, { on := 19, ground := Ground.phase }, { on := 20, ground := Ground.phase }, { on := 21, ground := Ground.phase }, { on := 22, ground := Ground.phase }, { on := 23, ground := Ground.phase }, { on := 24, ground := Ground.phase }, { on := 25, ground := Ground.phase }, { on := 26, ground := Ground.phase }, { on := 27, ground := Ground.phase }], guard := none }) (v := .string (mkb zA)) rfl (by kernel_rfl) (by kernel_rfl) (by kernel_rfl) (fun _ _ _ h => h) (Or.inl ⟨by kernel_rfl, fun W h => (by first | kernel_rfl | go_simp)⟩) d4 ?_
        try simp only [Act.put, List.setIfInBounds_toArray, List.set_cons_zero, List.set_cons_succ]
        refine wpAnyH_done (by kernel_rfl) ?_ _
        clear hS b0
        have B9 := hide (show Below w.heap.size w v4 from (unhide BX).trans (d4.mono (unhide BX).size))
        clear d4
        go_wp2_with fail
        go_roundw
        case rel => exact ⟨n + 1, by omega, by go_num, by rw [unhide EE], B9, L2⟩
        case measure => simp [intOf]; omega
    case neg =>
      have e8 : n = 8 := by omega
      subst e8
      go_wp2_with fail
      go_loopw [3, 6] (fun o i wr => ∃ d : Nat, d ≤ 3 ∧ i = .int .i64 d ∧ o = .string (mkb (Txt.stream (Txt.linesD m d))) ∧ Hid (Below w.heap.size w wr) ∧ Hid ((Txt.stream (Txt.linesD m d)).length ≤ 400000 * (8 + 4 * d))) (fun _ i _ => 3 - (intOf i).toNat)
      case atStart => exact ⟨0, Nat.zero_le _, rfl, by rw [Txt.linesD_zero], BW, by rw [Txt.linesD_zero]; exact LW⟩
      case round =>
        clear BW LW hlt hn
        obtain ⟨d, hd, rfl, rfl, BW, LW⟩ := hrel
        by_cases hld : d < 3
        case pos =>
          have jd : (d : Int) < 3 := by omega
          go_wp2_with fail
          go_loopw [3, 7] (fun o i wr => ∃ s : Nat, s ≤ 4 ∧ i = .int .i64 s ∧ o = .string (mkb (Txt.stream (Txt.linesE m d s))) ∧ Hid (Below w.heap.size w wr) ∧ Hid ((Txt.stream (Txt.linesE m d s)).length ≤ 400000 * (8 + 4 * d + s))) (fun _ i _ => 4 - (intOf i).toNat)
          case atStart => exact ⟨0, Nat.zero_le _, rfl, by rw [Txt.linesE_zero], BW, by rw [Txt.linesE_zero]; exact LW⟩
          case round =>
            clear BW LW
            obtain ⟨s, hs, rfl, rfl, BW, LW⟩ := hrel
            by_cases hls : s < 4
            case neg =>
              have e4 : s = 4 := by omega
              subst e4
              go_wp2_with fail
              go_roundw
              case rel => exact ⟨d + 1, by omega, by go_num, by rw [← Txt.linesE_four], BW, hide (by have := unhide LW; rw [← Txt.linesE_four]; omega)⟩
              case measure => simp [intOf]; omega
            case pos =>
            have js : (s : Int) < 4 := by omega
            have zE := zero_en8
            have hle : 40 + d * 12 + s * 3 + 3 ≤ cs.size := by rw [zs]; omega
            have r1 := hide (show wr.heap[g]? = some (.cells cs 34) by rw [(unhide BW).block g (unhide GL)]; exact unhide HR)
            have s1 := hide (heap_alloc_last wr (.cells enZ8 27))
            have BA := hide (below_setRow ((Below.refl wr.heap.size wr).alloc (Nat.le_refl _) (.cells enZ8 27)) (Nat.le_refl wr.heap.size) #[.string (m.name d s), .int .i64 (m.ino d s), .int .i64 (m.est d s)])
            have RA := hide (setRow_heap (wr.alloc (.cells enZ8 27)) wr.heap.size _ #[.string (m.name d s), .int .i64 (m.ino d s), .int .i64 (m.est d s)] _ _ (heap_alloc_last wr (.cells enZ8 27)))
            go_upto_region 15 with (first | (have hx := unhide r1; refine wpList_load_part rfl 27 _ rfl g (40 + d * 12 + s * 3) 3 rfl 34 cs _ hx en8_under rfl en8_cells hle ?_; rw [en8_row hi hld hls]; clear hx r1) | (have hx := unhide s1; refine wpList_store_row rfl 27 _ _ rfl wr.heap.size #[.string (m.name d s), .int .i64 (m.ino d s), .int .i64 (m.est d s)] rfl rfl 27 enZ8 hx en8_cells rfl (by kernel_rfl) ?_; clear hx s1))
            try simp only [Act.put]
            generalize (wr.alloc (.cells enZ8 27)).setRow wr.heap.size #[.string (m.name d s), .int .i64 (m.ino d s), .int .i64 (m.est d s)] = XW at BA RA ⊢
            have BX := hide (show Below w.heap.size w XW from (unhide BW).trans ((unhide BA).mono (unhide BW).size))
            generalize wr.heap.size = gi at RA ⊢
            have c0 : XW.cell? ⟨gi, 0, none⟩ = some (.string (m.name d s)) := by rw [Lib.cell_of_heap (unhide RA)]; rfl
            have c1 : XW.cell? ⟨gi, 1, none⟩ = some (.int .i64 (m.ino d s)) := by rw [Lib.cell_of_heap (unhide RA)]; rfl
            have c2 : XW.cell? ⟨gi, 2, none⟩ = some (.int .i64 (m.est d s)) := by rw [Lib.cell_of_heap (unhide RA)]; rfl
            have gl : gi < XW.heap.size := (Array.getElem?_eq_some_iff.1 (unhide RA)).1
            clear BA RA zE hle BW
            cases hl : m.named d s
            case false =>
              have E := hide (Txt.linesE_no hl)
              have en : (m.name d s).toList.isEmpty = true := by unfold Img.named at hl; simpa using hl
              clear hl
              go_wp2_with fail
              go_roundw
              case rel =>
                repeat apply Exists.intro
                exact ⟨⟨s + 1, by omega, by go_num, by rw [unhide E], BX, hide (by have := unhide LW; rw [unhide E]; omega)⟩, rfl⟩
              case measure => simp [intOf]; omega
            have en : (m.name d s).toList.isEmpty = false := by unfold Img.named at hl; simpa using hl
            obtain ⟨X, hX⟩ : ∃ X, Lib.itoa (d : Int) = X := ⟨_, rfl⟩
            obtain ⟨O, hO⟩ : ∃ X, Lib.itoa (s : Int) = X := ⟨_, rfl⟩
            obtain ⟨E, hE⟩ : ∃ X, Lib.itoa (m.ino d s) = X := ⟨_, rfl⟩
            obtain ⟨P, hP⟩ : ∃ X, Lib.itoa (m.est d s) = X := ⟨_, rfl⟩
            obtain ⟨nl, hnl⟩ : ∃ X, (m.name d s).toList = X := ⟨_, rfl⟩
            have tx : Tab XW := tab_block (unhide HT) ((unhide BX).block 1 (unhide TL))
            have N0 := hide (fun V (hb : Below XW.heap.size XW V) => num_in hb tx (I64.nat (n := d) (by omega)) hX)
            have N1 := hide (fun V (hb : Below XW.heap.size XW V) => num_in hb tx (I64.nat (n := s) (by omega)) hO)
            have N2 := hide (fun V (hb : Below XW.heap.size XW V) => num_in hb tx ((unhide FF).ino d s hld hls) hE)
            have N3 := hide (fun V (hb : Below XW.heap.size XW V) => num_in hb tx ((unhide FF).est d s hld hls) hP)
            have lx : X.length ≤ 21 := by rw [← hX]; exact itoa_len (I64.nat (n := d) (by omega))
            have lo : O.length ≤ 21 := by rw [← hO]; exact itoa_len (I64.nat (n := s) (by omega))
            have lE : E.length ≤ 21 := by rw [← hE]; exact itoa_len ((unhide FF).ino d s hld hls)
            have lp : P.length ≤ 21 := by rw [← hP]; exact itoa_len ((unhide FF).est d s hld hls)
            have ln : nl.length ≤ 100000 := by rw [← hnl, len_bytes]; exact (unhide FF).name d s hld hls
            have LE := hide (ent_le (unhide FF) hld hls)
            have EL := hide (Txt.linesE_yes hl)
            have la := unhide LW
            obtain ⟨A, hA⟩ : ∃ A, A = Txt.stream (Txt.linesE m d s) := ⟨_, rfl⟩
            rw [← hA] at la
            obtain ⟨z1, hz1⟩ : ∃ z : List UInt8, [101, 110, 116, 114, 121, 32] ++ X = z := ⟨_, rfl⟩
            have m1 : z1.length = 6 + X.length := by rw [← hz1, List.length_append]; rfl
            obtain ⟨z2, hz2⟩ : ∃ z : List UInt8, z1 ++ [32] = z := ⟨_, rfl⟩
            have m2 : z2.length = z1.length + 1 := by rw [← hz2, List.length_append]; rfl
            obtain ⟨z3, hz3⟩ : ∃ z : List UInt8, z2 ++ O = z := ⟨_, rfl⟩
            have m3 : z3.length = z2.length + O.length := by rw [← hz3, List.length_append]
            obtain ⟨z4, hz4⟩ : ∃ z : List UInt8, z3 ++ [32] = z := ⟨_, rfl⟩
            have m4 : z4.length = z3.length + 1 := by rw [← hz4, List.length_append]; rfl
            obtain ⟨z5, hz5⟩ : ∃ z : List UInt8, z4 ++ nl = z := ⟨_, rfl⟩
            have m5 : z5.length = z4.length + nl.length := by rw [← hz5, List.length_append]
            obtain ⟨z6, hz6⟩ : ∃ z : List UInt8, z5 ++ [32] = z := ⟨_, rfl⟩
            have m6 : z6.length = z5.length + 1 := by rw [← hz6, List.length_append]; rfl
            obtain ⟨z7, hz7⟩ : ∃ z : List UInt8, z6 ++ E = z := ⟨_, rfl⟩
            have m7 : z7.length = z6.length + E.length := by rw [← hz7, List.length_append]
            obtain ⟨z8, hz8⟩ : ∃ z : List UInt8, z7 ++ [32] = z := ⟨_, rfl⟩
            have m8 : z8.length = z7.length + 1 := by rw [← hz8, List.length_append]; rfl
            obtain ⟨z9, hz9⟩ : ∃ z : List UInt8, z8 ++ P = z := ⟨_, rfl⟩
            have m9 : z9.length = z8.length + P.length := by rw [← hz9, List.length_append]
            obtain ⟨z10, hz10⟩ : ∃ z : List UInt8, z9 ++ [10] = z := ⟨_, rfl⟩
            have m10 : z10.length = z9.length + 1 := by rw [← hz10, List.length_append]; rfl
            obtain ⟨zA, hzA⟩ : ∃ z : List UInt8, A ++ z10 = z := ⟨_, rfl⟩
            have mA : zA.length ≤ 900000000 := by rw [← hzA, List.length_append]; omega
            have EE := hide (show Txt.stream (Txt.linesE m d (s + 1)) = zA by
              rw [Txt.linesE_yes hl, ← hA, ← hzA, ← hz10, ← hz9, ← hz8, ← hz7, ← hz6, ← hz5, ← hz4, ← hz3, ← hz2, ← hz1]
              congr 1
              unfold Txt.entW
              rw [hX, hO, hE, hP, hnl]
              simp [Txt.line, Txt.tailW])
            have Z1 := hide hz1
            clear hz1
            have Z2 := hide hz2
            clear hz2
            have Z3 := hide hz3
            clear hz3
            have Z4 := hide hz4
            clear hz4
            have Z5 := hide hz5
            clear hz5
            have Z6 := hide hz6
            clear hz6
            have Z7 := hide hz7
            clear hz7
            have Z8 := hide hz8
            clear hz8
            have Z9 := hide hz9
            clear hz9
            have Z10 := hide hz10
            clear hz10
            have ZA := hide hzA
            clear hzA
            have NB := hide (show m.name d s = mkb nl by rw [← hnl]; exact (mk_self _).symm)
            rw [unhide NB] at c0
            have en : nl.isEmpty = false := by rw [← hnl]; exact en
            clear hl hX hO hE hP hnl tx
            have b0 : Below XW.heap.size XW XW.drew := (Below.refl _ XW).drew
            have L2 := hide (show (Txt.stream (Txt.linesE m d (s + 1))).length ≤ 400000 * (8 + 4 * d + (s + 1)) by rw [unhide EL, List.length_append]; have := unhide LE; have := unhide LW; omega)
            rw [← hA]
            clear hA
            go_upto_region 16 with fail
            refine wp_region_held_drew (S := fun (V : World) => Below XW.heap.size XW V) (by kernel_rfl) (b0) (fun hS => ?_)
            refine wpAnyH_take (i := 0) (oi := { dst := some 69, op := Op.move (Operand.tmp 3), type := 9, pos := "base.go:730", after := #[], guard := none }) (v := .string (mkb A)) rfl (by kernel_rfl) (by kernel_rfl) (by kernel_rfl) (fun _ _ _ h => h) (Or.inl ⟨by kernel_rfl, fun W h => (by first | kernel_rfl | go_simp)⟩) b0 ?_
            try simp only [Act.put, List.setIfInBounds_toArray, List.set_cons_zero, List.set_cons_succ]
            refine wpAnyH_take (i := 1) (oi := { dst := some 70, op := Op.move (Operand.tmp 6), type := 3, pos := "base.go:730", after := #[], guard := none }) (v := .int .i64 (d : Int)) rfl (by kernel_rfl) (by kernel_rfl) (by kernel_rfl) (fun _ _ _ h => h) (Or.inl ⟨by kernel_rfl, fun W h => (by first | kernel_rfl | go_simp)⟩) b0 ?_
            try simp only [Act.put, List.setIfInBounds_toArray, List.set_cons_zero, List.set_cons_succ]
            refine wpAnyH_take (i := 5) (oi := { dst := some 74, op := Op.move (Operand.tmp 7), type := 3, pos := "base.go:730", after := #[], guard := none }) (v := .int .i64 (s : Int)) rfl (by kernel_rfl) (by kernel_rfl) (by kernel_rfl) (fun _ _ _ h => h) (Or.inl ⟨by kernel_rfl, fun W h => (by first | kernel_rfl | go_simp)⟩) b0 ?_
            try simp only [Act.put, List.setIfInBounds_toArray, List.set_cons_zero, List.set_cons_succ]
            refine wpAnyH_take (i := 9) (oi := { dst := some 78, op := Op.fieldAddr 27 (Operand.tmp 8) 0, type := 0, pos := "base.go:730", after := #[], guard := none }) (v := .pointer (some ⟨gi, 0, none⟩)) rfl (by kernel_rfl) (by kernel_rfl) (by kernel_rfl) (fun _ _ _ h => h) (Or.inl ⟨by kernel_rfl, fun W h => (by first | kernel_rfl | go_simp)⟩) b0 ?_
            try simp only [Act.put, List.setIfInBounds_toArray, List.set_cons_zero, List.set_cons_succ]
            refine wpAnyH_take (i := 10) (oi := { dst := some 79, op := Op.load 9 (Operand.tmp 78), type := 9, pos := "base.go:730", after := #[{ on := 9, ground := Ground.data }], guard := none }) (v := .string (mkb nl)) rfl (by kernel_rfl) (by kernel_rfl) (by kernel_rfl) (fun _ _ _ h => h) (Or.inl ⟨by kernel_rfl, fun W h => ld_s (.tmp 78) (by kernel_rfl) (by kernel_rfl) W (below_cell h gl c0)⟩) b0 ?_
            try simp only [Act.put, List.setIfInBounds_toArray, List.set_cons_zero, List.set_cons_succ]
            refine wpAnyH_take (i := 13) (oi := { dst := some 82, op := Op.fieldAddr 27 (Operand.tmp 8) 1, type := 0, pos := "base.go:730", after := #[], guard := none }) (v := .pointer (some ⟨gi, 1, none⟩)) rfl (by kernel_rfl) (by kernel_rfl) (by kernel_rfl) (fun _ _ _ h => h) (Or.inl ⟨by kernel_rfl, fun W h => (by first | kernel_rfl | go_simp)⟩) b0 ?_
            try simp only [Act.put, List.setIfInBounds_toArray, List.set_cons_zero, List.set_cons_succ]
            refine wpAnyH_take (i := 14) (oi := { dst := some 83, op := Op.load 3 (Operand.tmp 82), type := 3, pos := "base.go:730", after := #[{ on := 13, ground := Ground.data }], guard := none }) (v := .int .i64 (m.ino d s)) rfl (by kernel_rfl) (by kernel_rfl) (by kernel_rfl) (fun _ _ _ h => h) (Or.inl ⟨by kernel_rfl, fun W h => ld_i (.tmp 82) (by kernel_rfl) (by kernel_rfl) W (below_cell h gl c1)⟩) b0 ?_
            try simp only [Act.put, List.setIfInBounds_toArray, List.set_cons_zero, List.set_cons_succ]
            refine wpAnyH_take (i := 18) (oi := { dst := some 87, op := Op.fieldAddr 27 (Operand.tmp 8) 2, type := 0, pos := "base.go:730", after := #[], guard := none }) (v := .pointer (some ⟨gi, 2, none⟩)) rfl (by kernel_rfl) (by kernel_rfl) (by kernel_rfl) (fun _ _ _ h => h) (Or.inl ⟨by kernel_rfl, fun W h => (by first | kernel_rfl | go_simp)⟩) b0 ?_
            try simp only [Act.put, List.setIfInBounds_toArray, List.set_cons_zero, List.set_cons_succ]
            refine wpAnyH_take (i := 19) (oi := { dst := some 88, op := Op.load 3 (Operand.tmp 87), type := 3, pos := "base.go:730", after := #[{ on := 18, ground := Ground.data }], guard := none }) (v := .int .i64 (m.est d s)) rfl (by kernel_rfl) (by kernel_rfl) (by kernel_rfl) (fun _ _ _ h => h) (Or.inl ⟨by kernel_rfl, fun W h => ld_i (.tmp 87) (by kernel_rfl) (by kernel_rfl) W (below_cell h gl c2)⟩) b0 ?_
            try simp only [Act.put, List.setIfInBounds_toArray, List.set_cons_zero, List.set_cons_succ]
            refine wpAnyH_ready (rs := [2]) (by kernel_rfl) (by simp) ?_
            refine AllReadyH.cons (o := { dst := some 71, op := Op.call { callee := Callee.value (Operand.func 20), args := #[Operand.tmp 70], argTypes := #[3] }, type := 9, pos := "base.go:730", after := #[{ on := 1, ground := Ground.data }], guard := none }) rfl (fun K hK => ?_) AllReadyH.nil
            rw [if_pos (by kernel_rfl)]
            go_simp
            refine (unhide N0 _ b0).mono ?_
            rintro e v0 ⟨rfl, d0⟩
            go_wp2_with fail
            refine hK.out _ _ (d0) (fun _ => ?_)
            clear hK K
            try simp only [Act.put, List.setIfInBounds_toArray, List.set_cons_zero, List.set_cons_succ]
            refine wpAnyH_take (i := 3) (oi := { dst := some 72, op := Op.binOp BinOp.add 9 (Operand.const (Value.string { data := #[101, 110, 116, 114, 121, 32] })) (Operand.tmp 71) 9, type := 9, pos := "base.go:730", after := #[{ on := 2, ground := Ground.data }], guard := none }) (v := .string (mkb z1)) rfl (by kernel_rfl) (by kernel_rfl) (by kernel_rfl) (fun _ _ _ h => h) (Or.inl ⟨by kernel_rfl, fun W h => catV (.const (.string ⟨#[101, 110, 116, 114, 121, 32]⟩)) (.tmp 71) (by kernel_rfl) (a := [101, 110, 116, 114, 121, 32]) (by kernel_rfl) (by kernel_rfl) (unhide Z1) (by omega) W⟩) d0 ?_
            try simp only [Act.put, List.setIfInBounds_toArray, List.set_cons_zero, List.set_cons_succ]
            refine wpAnyH_take (i := 4) (oi := { dst := some 73, op := Op.binOp BinOp.add 9 (Operand.tmp 72) (Operand.const (Value.string { data := #[32] })) 9, type := 9, pos := "base.go:730", after := #[{ on := 3, ground := Ground.data }], guard := none }) (v := .string (mkb z2)) rfl (by kernel_rfl) (by kernel_rfl) (by kernel_rfl) (fun _ _ _ h => h) (Or.inl ⟨by kernel_rfl, fun W h => catV (.tmp 72) (.const (.string ⟨#[32]⟩)) (by kernel_rfl) (b := [32]) (by kernel_rfl) (by kernel_rfl) (unhide Z2) (by omega) W⟩) d0 ?_
            try simp only [Act.put, List.setIfInBounds_toArray, List.set_cons_zero, List.set_cons_succ]
            refine wpAnyH_ready (rs := [6]) (by kernel_rfl) (by simp) ?_
            refine AllReadyH.cons (o := { dst := some 75, op := Op.call { callee := Callee.value (Operand.func 20), args := #[Operand.tmp 74], argTypes := #[3] }, type := 9, pos := "base.go:730", after := #[{ on := 5, ground := Ground.data }, { on := 2, ground := Ground.chain }], guard := none }) rfl (fun K hK => ?_) AllReadyH.nil
            rw [if_pos (by kernel_rfl)]
            go_simp
            refine (unhide N1 _ d0).mono ?_
            rintro e v1 ⟨rfl, d1⟩
            clear d0
            go_wp2_with fail
            refine hK.out _ _ (d1) (fun _ => ?_)
            clear hK K
            try simp only [Act.put, List.setIfInBounds_toArray, List.set_cons_zero, List.set_cons_succ]
            refine wpAnyH_take (i := 7) (oi := { dst := some 76, op := Op.binOp BinOp.add 9 (Operand.tmp 73) (Operand.tmp 75) 9, type := 9, pos := "base.go:730", after := #[{ on := 4, ground := Ground.data }, { on := 6, ground := Ground.data }], guard := none }) (v := .string (mkb z3)) rfl (by kernel_rfl) (by kernel_rfl) (by kernel_rfl) (fun _ _ _ h => h) (Or.inl ⟨by kernel_rfl, fun W h => catV (.tmp 73) (.tmp 75) (by kernel_rfl) (by kernel_rfl) (by kernel_rfl) (unhide Z3) (by omega) W⟩) d1 ?_
            try simp only [Act.put, List.setIfInBounds_toArray, List.set_cons_zero, List.set_cons_succ]
            refine wpAnyH_take (i := 8) (oi := { dst := some 77, op := Op.binOp BinOp.add 9 (Operand.tmp 76) (Operand.const (Value.string { data := #[32] })) 9, type := 9, pos := "base.go:730", after := #[{ on := 7, ground := Ground.data }], guard := none }) (v := .string (mkb z4)) rfl (by kernel_rfl) (by kernel_rfl) (by kernel_rfl) (fun _ _ _ h => h) (Or.inl ⟨by kernel_rfl, fun W h => catV (.tmp 76) (.const (.string ⟨#[32]⟩)) (by kernel_rfl) (b := [32]) (by kernel_rfl) (by kernel_rfl) (unhide Z4) (by omega) W⟩) d1 ?_
            try simp only [Act.put, List.setIfInBounds_toArray, List.set_cons_zero, List.set_cons_succ]
            refine wpAnyH_take (i := 11) (oi := { dst := some 80, op := Op.binOp BinOp.add 9 (Operand.tmp 77) (Operand.tmp 79) 9, type := 9, pos := "base.go:730", after := #[{ on := 8, ground := Ground.data }, { on := 10, ground := Ground.data }], guard := none }) (v := .string (mkb z5)) rfl (by kernel_rfl) (by kernel_rfl) (by kernel_rfl) (fun _ _ _ h => h) (Or.inl ⟨by kernel_rfl, fun W h => catV (.tmp 77) (.tmp 79) (by kernel_rfl) (by kernel_rfl) (by kernel_rfl) (unhide Z5) (by omega) W⟩) d1 ?_
            try simp only [Act.put, List.setIfInBounds_toArray, List.set_cons_zero, List.set_cons_succ]
            refine wpAnyH_take (i := 12) (oi := { dst := some 81, op := Op.binOp BinOp.add 9 (Operand.tmp 80) (Operand.const (Value.string { data := #[32] })) 9, type := 9, pos := "base.go:730", after := #[{ on := 11, ground := Ground.data }], guard := none }) (v := .string (mkb z6)) rfl (by kernel_rfl) (by kernel_rfl) (by kernel_rfl) (fun _ _ _ h => h) (Or.inl ⟨by kernel_rfl, fun W h => catV (.tmp 80) (.const (.string ⟨#[32]⟩)) (by kernel_rfl) (b := [32]) (by kernel_rfl) (by kernel_rfl) (unhide Z6) (by omega) W⟩) d1 ?_
            try simp only [Act.put, List.setIfInBounds_toArray, List.set_cons_zero, List.set_cons_succ]
            refine wpAnyH_ready (rs := [15]) (by kernel_rfl) (by simp) ?_
            refine AllReadyH.cons (o := { dst := some 84, op := Op.call { callee := Callee.value (Operand.func 20), args := #[Operand.tmp 83], argTypes := #[3] }, type := 9, pos := "base.go:730", after := #[{ on := 14, ground := Ground.data }, { on := 6, ground := Ground.chain }], guard := none }) rfl (fun K hK => ?_) AllReadyH.nil
            rw [if_pos (by kernel_rfl)]
            go_simp
            refine (unhide N2 _ d1).mono ?_
            rintro e v2 ⟨rfl, d2⟩
            clear d1
            go_wp2_with fail
            refine hK.out _ _ (d2) (fun _ => ?_)
            clear hK K
            try simp only [Act.put, List.setIfInBounds_toArray, List.set_cons_zero, List.set_cons_succ]
            refine wpAnyH_take (i := 16) (oi := { dst := some 85, op := Op.binOp BinOp.add 9 (Operand.tmp 81) (Operand.tmp 84) 9, type := 9, pos := "base.go:730", after := #[{ on := 12, ground := Ground.data }, { on := 15, ground := Ground.data }], guard := none }) (v := .string (mkb z7)) rfl (by kernel_rfl) (by kernel_rfl) (by kernel_rfl) (fun _ _ _ h => h) (Or.inl ⟨by kernel_rfl, fun W h => catV (.tmp 81) (.tmp 84) (by kernel_rfl) (by kernel_rfl) (by kernel_rfl) (unhide Z7) (by omega) W⟩) d2 ?_
            try simp only [Act.put, List.setIfInBounds_toArray, List.set_cons_zero, List.set_cons_succ]
            refine wpAnyH_take (i := 17) (oi := { dst := some 86, op := Op.binOp BinOp.add 9 (Operand.tmp 85) (Operand.const (Value.string { data := #[32] })) 9, type := 9, pos := "base.go:730", after := #[{ on := 16, ground := Ground.data }], guard := none }) (v := .string (mkb z8)) rfl (by kernel_rfl) (by kernel_rfl) (by kernel_rfl) (fun _ _ _ h => h) (Or.inl ⟨by kernel_rfl, fun W h => catV (.tmp 85) (.const (.string ⟨#[32]⟩)) (by kernel_rfl) (b := [32]) (by kernel_rfl) (by kernel_rfl) (unhide Z8) (by omega) W⟩) d2 ?_
            try simp only [Act.put, List.setIfInBounds_toArray, List.set_cons_zero, List.set_cons_succ]
            refine wpAnyH_ready (rs := [20]) (by kernel_rfl) (by simp) ?_
            refine AllReadyH.cons (o := { dst := some 89, op := Op.call { callee := Callee.value (Operand.func 20), args := #[Operand.tmp 88], argTypes := #[3] }, type := 9, pos := "base.go:730", after := #[{ on := 19, ground := Ground.data }, { on := 15, ground := Ground.chain }], guard := none }) rfl (fun K hK => ?_) AllReadyH.nil
            rw [if_pos (by kernel_rfl)]
            go_simp
            refine (unhide N3 _ d2).mono ?_
            rintro e v3 ⟨rfl, d3⟩
            clear d2
            go_wp2_with fail
            refine hK.out _ _ (d3) (fun _ => ?_)
            clear hK K
            try simp only [Act.put, List.setIfInBounds_toArray, List.set_cons_zero, List.set_cons_succ]
            refine wpAnyH_take (i := 21) (oi := { dst := some 90, op := Op.binOp BinOp.add 9 (Operand.tmp 86) (Operand.tmp 89) 9, type := 9, pos := "base.go:730", after := #[{ on := 17, ground := Ground.data }, { on := 20, ground := Ground.data }], guard := none }) (v := .string (mkb z9)) rfl (by kernel_rfl) (by kernel_rfl) (by kernel_rfl) (fun _ _ _ h => h) (Or.inl ⟨by kernel_rfl, fun W h => catV (.tmp 86) (.tmp 89) (by kernel_rfl) (by kernel_rfl) (by kernel_rfl) (unhide Z9) (by omega) W⟩) d3 ?_
            try simp only [Act.put, List.setIfInBounds_toArray, List.set_cons_zero, List.set_cons_succ]
            refine wpAnyH_take (i := 22) (oi := { dst := some 91, op := Op.binOp BinOp.add 9 (Operand.tmp 90) (Operand.const (Value.string { data := #[10] })) 9, type := 9, pos := "base.go:730", after := #[{ on := 21, ground := Ground.data }], guard := none }) (v := .string (mkb z10)) rfl (by kernel_rfl) (by kernel_rfl) (by kernel_rfl) (fun _ _ _ h => h) (Or.inl ⟨by kernel_rfl, fun W h => catV (.tmp 90) (.const (.string ⟨#[10]⟩)) (by kernel_rfl) (b := [10]) (by kernel_rfl) (by kernel_rfl) (unhide Z10) (by omega) W⟩) d3 ?_
            try simp only [Act.put, List.setIfInBounds_toArray, List.set_cons_zero, List.set_cons_succ]
            refine wpAnyH_take (i := 23) (oi := { dst := some 92, op := Op.binOp BinOp.add 9 (Operand.tmp 69) (Operand.tmp 91) 9, type := 9, pos := "base.go:730", after := #[{ on := 0, ground := Ground.data }, { on := 22, ground := Ground.data }], guard := none }) (v := .string (mkb zA)) rfl (by kernel_rfl) (by kernel_rfl) (by kernel_rfl) (fun _ _ _ h => h) (Or.inl ⟨by kernel_rfl, fun W h => catV (.tmp 69) (.tmp 91) (by kernel_rfl) (by kernel_rfl) (by kernel_rfl) (unhide ZA) (by omega) W⟩) d3 ?_
            try simp only [Act.put, List.setIfInBounds_toArray, List.set_cons_zero, List.set_cons_succ]
            refine wpAnyH_take (i := 24) (oi := { dst := some 3, op := Op.assign (Operand.tmp 92), type := 9, pos := "base.go:730", after := #[{ on := 23, ground := Ground.data }, { on := 20, ground := Ground.chain }, { on := 0, ground := Ground.phase }, { on := 1, ground := Ground.phase }, { on := 2, ground := Ground.phase }, { on := 3, ground := Ground.phase }, { on := 4, ground := Ground.phase }, { on := 5, ground := Ground.phase }, { on := 6, ground := Ground.phase }, { on := 7, ground := Ground.phase }, { on := 8, ground := Ground.phase }, { on := 9, ground := Ground.phase }, { on := 10, ground := Ground.phase }, { on := 11, ground := Ground.phase }, { on := 12, ground := Ground.phase }, { on := 13, ground := Ground.phase }, { on := 14, ground := Ground.phase }, { on := 15, ground := Ground.phase }, { on := 16, ground := Ground.phase }, { on := 17, ground := Ground.phase }, { on := 18, ground := Ground.phase }, { on := 19, ground := Ground.phase }, { on := 20, ground := Ground.phase }, { on := 21, ground := Ground.phase }, { on := 22, ground := Ground.phase }, { on := 23, ground := Ground.phase }], guard := none }) (v := .string (mkb zA)) rfl (by kernel_rfl) (by kernel_rfl) (by kernel_rfl) (fun _ _ _ h => h) (Or.inl ⟨by kernel_rfl, fun W h => (by first | kernel_rfl | go_simp)⟩) d3 ?_
            try simp only [Act.put, List.setIfInBounds_toArray, List.set_cons_zero, List.set_cons_succ]
            refine wpAnyH_done (by kernel_rfl) ?_ _
            clear hS b0
            have B9 := hide (show Below w.heap.size w v3 from (unhide BX).trans (d3.mono (unhide BX).size))
            clear d3
            go_wp2_with fail
            go_roundw
            case rel =>
              repeat apply Exists.intro
              exact ⟨⟨s + 1, by omega, by go_num, by rw [unhide EE], B9, L2⟩, rfl⟩
            case measure => simp [intOf]; omega
        case neg =>
          have e3 : d = 3 := by omega
          subst e3
          go_wp2_with fail
          go_loopw [3, 9] (fun o i wr => ∃ x : Nat, x ≤ 9 ∧ i = .int .i64 x ∧ o = .string (mkb (Txt.stream (Txt.linesX m x))) ∧ Hid (Below w.heap.size w wr) ∧ Hid ((Txt.stream (Txt.linesX m x)).length ≤ 400000 * (20 + x))) (fun _ i _ => 9 - (intOf i).toNat)
          case atStart => exact ⟨0, Nat.zero_le _, rfl, by rw [Txt.linesX_zero], BW, by rw [Txt.linesX_zero]; exact LW⟩
          case round =>
            clear BW LW hld hd
            obtain ⟨x, hx, rfl, rfl, BX, LW⟩ := hrel
            by_cases hlx : x < 9
            case neg =>
              have e9 : x = 9 := by omega
              subst e9
              go_wp2_with fail
              go_ret
              exact ⟨rfl, unhide BX⟩
            case pos =>
              have jx : (x : Int) < 9 := by omega
              have HI := (unhide HM).below (unhide BX) (unhide GL)
              have c0 := HI.of x hlx
              have c1 := HI.text x hlx
              have gl := HI.lt
              clear HI
              by_cases hl : m.of x = 0
              case pos =>
                have E := hide (Txt.linesX_no hl)
                rw [hl] at c0
                clear hl
                go_wp2_with fail
                go_roundw
                case rel => exact ⟨x + 1, by omega, by go_num, by rw [unhide E], BX, hide (by have := unhide LW; rw [unhide E]; omega)⟩
                case measure => simp [intOf]; omega
              have q0 : (m.of x == 0) = false := by simpa using hl
              generalize wr = XW at BX c0 c1 gl ⊢
              obtain ⟨X, hX⟩ : ∃ X, Lib.itoa (x : Int) = X := ⟨_, rfl⟩
              obtain ⟨O, hO⟩ : ∃ X, Lib.itoa (m.of x) = X := ⟨_, rfl⟩
              obtain ⟨E, hE⟩ : ∃ X, Txt.shows (m.text x).toList = X := ⟨_, rfl⟩
              have tx : Tab XW := tab_block (unhide HT) ((unhide BX).block 1 (unhide TL))
              have N0 := hide (fun V (hb : Below XW.heap.size XW V) => num_in hb tx (I64.nat (n := x) (by omega)) hX)
              have N1 := hide (fun V (hb : Below XW.heap.size XW V) => num_in hb tx ((unhide FF).of x hlx) hO)
              have N2 := hide (fun (V : World) (hb : Below XW.heap.size XW V) => (Shown_any (m.text x) (by have := (unhide FF).text x hlx; omega) V).mono fun e w' ⟨he, h⟩ => (show e = Ending.returned (.string (mkb E)) ∧ Below XW.heap.size XW w' from ⟨by rw [he, hE], hb.trans (h.mono hb.size)⟩))
              have lx : X.length ≤ 21 := by rw [← hX]; exact itoa_len (I64.nat (n := x) (by omega))
              have lo : O.length ≤ 21 := by rw [← hO]; exact itoa_len ((unhide FF).of x hlx)
              have lE : E.length ≤ 300001 := by
                rw [← hE]
                have h1 := (Txt.showR_len (m.text x).toList).2
                have h2 := (unhide FF).text x hlx
                rw [len_bytes] at h1
                show (Txt.showR (m.text x).toList).length + 1 ≤ _
                omega
              have LE := hide (dat_le (unhide FF) hlx)
              have EL := hide (Txt.linesX_yes hl)
              have la := unhide LW
              obtain ⟨A, hA⟩ : ∃ A, A = Txt.stream (Txt.linesX m x) := ⟨_, rfl⟩
              rw [← hA] at la
              obtain ⟨z1, hz1⟩ : ∃ z : List UInt8, [100, 97, 116, 97, 32] ++ X = z := ⟨_, rfl⟩
              have m1 : z1.length = 5 + X.length := by rw [← hz1, List.length_append]; rfl
              obtain ⟨z2, hz2⟩ : ∃ z : List UInt8, z1 ++ [32] = z := ⟨_, rfl⟩
              have m2 : z2.length = z1.length + 1 := by rw [← hz2, List.length_append]; rfl
              obtain ⟨z3, hz3⟩ : ∃ z : List UInt8, z2 ++ O = z := ⟨_, rfl⟩
              have m3 : z3.length = z2.length + O.length := by rw [← hz3, List.length_append]
              obtain ⟨z4, hz4⟩ : ∃ z : List UInt8, z3 ++ [32] = z := ⟨_, rfl⟩
              have m4 : z4.length = z3.length + 1 := by rw [← hz4, List.length_append]; rfl
              obtain ⟨z5, hz5⟩ : ∃ z : List UInt8, z4 ++ E = z := ⟨_, rfl⟩
              have m5 : z5.length = z4.length + E.length := by rw [← hz5, List.length_append]
              obtain ⟨z6, hz6⟩ : ∃ z : List UInt8, z5 ++ [10] = z := ⟨_, rfl⟩
              have m6 : z6.length = z5.length + 1 := by rw [← hz6, List.length_append]; rfl
              obtain ⟨zA, hzA⟩ : ∃ z : List UInt8, A ++ z6 = z := ⟨_, rfl⟩
              have mA : zA.length ≤ 900000000 := by rw [← hzA, List.length_append]; omega
              have EE := hide (show Txt.stream (Txt.linesX m (x + 1)) = zA by
                rw [Txt.linesX_yes hl, ← hA, ← hzA, ← hz6, ← hz5, ← hz4, ← hz3, ← hz2, ← hz1]
                congr 1
                unfold Txt.datW
                rw [hX, hO, hE]
                simp [Txt.line, Txt.tailW])
              have Z1 := hide hz1
              clear hz1
              have Z2 := hide hz2
              clear hz2
              have Z3 := hide hz3
              clear hz3
              have Z4 := hide hz4
              clear hz4
              have Z5 := hide hz5
              clear hz5
              have Z6 := hide hz6
              clear hz6
              have ZA := hide hzA
              clear hzA
              clear hl hX hO hE tx
              have b0 : Below XW.heap.size XW XW.drew := (Below.refl _ XW).drew
              have L2 := hide (show (Txt.stream (Txt.linesX m (x + 1))).length ≤ 400000 * (20 + (x + 1)) by rw [unhide EL, List.length_append]; have := unhide LE; have := unhide LW; omega)
              rw [← hA]
              clear hA
              go_upto_region 21 with fail
              refine wp_region_held_drew (S := fun (V : World) => Below XW.heap.size XW V) (by kernel_rfl) (b0) (fun hS => ?_)
              refine wpAnyH_take (i := 0) (oi := { dst := some 105, op := Op.move (Operand.tmp 3), type := 9, pos := "base.go:736", after := #[], guard := none }) (v := .string (mkb A)) rfl (by kernel_rfl) (by kernel_rfl) (by kernel_rfl) (fun _ _ _ h => h) (Or.inl ⟨by kernel_rfl, fun W h => (by first | kernel_rfl | go_simp)⟩) b0 ?_
              try simp only [Act.put, List.setIfInBounds_toArray, List.set_cons_zero, List.set_cons_succ]
              refine wpAnyH_take (i := 1) (oi := { dst := some 106, op := Op.move (Operand.tmp 9), type := 3, pos := "base.go:736", after := #[], guard := none }) (v := .int .i64 (x : Int)) rfl (by kernel_rfl) (by kernel_rfl) (by kernel_rfl) (fun _ _ _ h => h) (Or.inl ⟨by kernel_rfl, fun W h => (by first | kernel_rfl | go_simp)⟩) b0 ?_
              try simp only [Act.put, List.setIfInBounds_toArray, List.set_cons_zero, List.set_cons_succ]
              refine wpAnyH_take (i := 5) (oi := { dst := some 110, op := Op.move (Operand.tmp 0), type := 40, pos := "base.go:736", after := #[], guard := none }) (v := .pointer (some ⟨g, 0, none⟩)) rfl (by kernel_rfl) (by kernel_rfl) (by kernel_rfl) (fun _ _ _ h => h) (Or.inl ⟨by kernel_rfl, fun W h => (by first | kernel_rfl | go_simp)⟩) b0 ?_
              try simp only [Act.put, List.setIfInBounds_toArray, List.set_cons_zero, List.set_cons_succ]
              refine wpAnyH_take (i := 6) (oi := { dst := some 111, op := Op.move (Operand.tmp 9), type := 3, pos := "base.go:736", after := #[], guard := none }) (v := .int .i64 (x : Int)) rfl (by kernel_rfl) (by kernel_rfl) (by kernel_rfl) (fun _ _ _ h => h) (Or.inl ⟨by kernel_rfl, fun W h => (by first | kernel_rfl | go_simp)⟩) b0 ?_
              try simp only [Act.put, List.setIfInBounds_toArray, List.set_cons_zero, List.set_cons_succ]
              refine wpAnyH_take (i := 7) (oi := { dst := some 112, op := Op.nilCheck (Operand.tmp 110), type := 0, pos := "base.go:736", after := #[{ on := 5, ground := Ground.data }], guard := none }) (v := .pointer (some ⟨g, 0, none⟩)) rfl (by kernel_rfl) (by kernel_rfl) (by kernel_rfl) (fun _ _ _ h => h) (Or.inl ⟨by kernel_rfl, fun W h => (by first | kernel_rfl | go_simp)⟩) b0 ?_
              try simp only [Act.put, List.setIfInBounds_toArray, List.set_cons_zero, List.set_cons_succ]
              refine wpAnyH_take (i := 8) (oi := { dst := some 113, op := Op.fieldAddr 34 (Operand.tmp 112) 2, type := 0, pos := "base.go:736", after := #[{ on := 7, ground := Ground.data }], guard := none }) (v := .pointer (some ⟨g, 76, none⟩)) rfl (by kernel_rfl) (by kernel_rfl) (by kernel_rfl) (fun _ _ _ h => h) (Or.inl ⟨by kernel_rfl, fun W h => (by first | kernel_rfl | go_simp)⟩) b0 ?_
              try simp only [Act.put, List.setIfInBounds_toArray, List.set_cons_zero, List.set_cons_succ]
              refine wpAnyH_take (i := 9) (oi := { dst := some 114, op := Op.indexAddr 32 (Operand.tmp 113) (Operand.tmp 111), type := 0, pos := "base.go:736", after := #[{ on := 8, ground := Ground.data }, { on := 6, ground := Ground.data }], guard := none }) (v := .pointer (some ⟨g, 76 + x * 2, none⟩)) rfl (by kernel_rfl) (by kernel_rfl) (by kernel_rfl) (fun _ _ _ h => h) (Or.inl ⟨by kernel_rfl, fun W h => ix8_data (.tmp 113) (.tmp 111) (by kernel_rfl) (by kernel_rfl) (by kernel_rfl) hlx W⟩) b0 ?_
              try simp only [Act.put, List.setIfInBounds_toArray, List.set_cons_zero, List.set_cons_succ]
              refine wpAnyH_take (i := 10) (oi := { dst := some 115, op := Op.fieldAddr 31 (Operand.tmp 114) 0, type := 0, pos := "base.go:736", after := #[{ on := 9, ground := Ground.data }], guard := none }) (v := .pointer (some ⟨g, 76 + x * 2, none⟩)) rfl (by kernel_rfl) (by kernel_rfl) (by kernel_rfl) (fun _ _ _ h => h) (Or.inl ⟨by kernel_rfl, fun W h => (by first | kernel_rfl | go_simp)⟩) b0 ?_
              try simp only [Act.put, List.setIfInBounds_toArray, List.set_cons_zero, List.set_cons_succ]
              refine wpAnyH_take (i := 11) (oi := { dst := some 116, op := Op.load 3 (Operand.tmp 115), type := 3, pos := "base.go:736", after := #[{ on := 10, ground := Ground.data }], guard := none }) (v := .int .i64 (m.of x)) rfl (by kernel_rfl) (by kernel_rfl) (by kernel_rfl) (fun _ _ _ h => h) (Or.inl ⟨by kernel_rfl, fun W h => ld_i (.tmp 115) (by kernel_rfl) (by kernel_rfl) W (below_cell h gl c0)⟩) b0 ?_
              try simp only [Act.put, List.setIfInBounds_toArray, List.set_cons_zero, List.set_cons_succ]
              refine wpAnyH_take (i := 15) (oi := { dst := some 120, op := Op.move (Operand.tmp 0), type := 40, pos := "base.go:736", after := #[], guard := none }) (v := .pointer (some ⟨g, 0, none⟩)) rfl (by kernel_rfl) (by kernel_rfl) (by kernel_rfl) (fun _ _ _ h => h) (Or.inl ⟨by kernel_rfl, fun W h => (by first | kernel_rfl | go_simp)⟩) b0 ?_
              try simp only [Act.put, List.setIfInBounds_toArray, List.set_cons_zero, List.set_cons_succ]
              refine wpAnyH_take (i := 16) (oi := { dst := some 121, op := Op.move (Operand.tmp 9), type := 3, pos := "base.go:736", after := #[], guard := none }) (v := .int .i64 (x : Int)) rfl (by kernel_rfl) (by kernel_rfl) (by kernel_rfl) (fun _ _ _ h => h) (Or.inl ⟨by kernel_rfl, fun W h => (by first | kernel_rfl | go_simp)⟩) b0 ?_
              try simp only [Act.put, List.setIfInBounds_toArray, List.set_cons_zero, List.set_cons_succ]
              refine wpAnyH_take (i := 17) (oi := { dst := some 122, op := Op.nilCheck (Operand.tmp 120), type := 0, pos := "base.go:736", after := #[{ on := 15, ground := Ground.data }], guard := none }) (v := .pointer (some ⟨g, 0, none⟩)) rfl (by kernel_rfl) (by kernel_rfl) (by kernel_rfl) (fun _ _ _ h => h) (Or.inl ⟨by kernel_rfl, fun W h => (by first | kernel_rfl | go_simp)⟩) b0 ?_
              try simp only [Act.put, List.setIfInBounds_toArray, List.set_cons_zero, List.set_cons_succ]
              refine wpAnyH_take (i := 18) (oi := { dst := some 123, op := Op.fieldAddr 34 (Operand.tmp 122) 2, type := 0, pos := "base.go:736", after := #[{ on := 17, ground := Ground.data }], guard := none }) (v := .pointer (some ⟨g, 76, none⟩)) rfl (by kernel_rfl) (by kernel_rfl) (by kernel_rfl) (fun _ _ _ h => h) (Or.inl ⟨by kernel_rfl, fun W h => (by first | kernel_rfl | go_simp)⟩) b0 ?_
              try simp only [Act.put, List.setIfInBounds_toArray, List.set_cons_zero, List.set_cons_succ]
              refine wpAnyH_take (i := 19) (oi := { dst := some 124, op := Op.indexAddr 32 (Operand.tmp 123) (Operand.tmp 121), type := 0, pos := "base.go:736", after := #[{ on := 18, ground := Ground.data }, { on := 16, ground := Ground.data }], guard := none }) (v := .pointer (some ⟨g, 76 + x * 2, none⟩)) rfl (by kernel_rfl) (by kernel_rfl) (by kernel_rfl) (fun _ _ _ h => h) (Or.inl ⟨by kernel_rfl, fun W h => ix8_data (.tmp 123) (.tmp 121) (by kernel_rfl) (by kernel_rfl) (by kernel_rfl) hlx W⟩) b0 ?_
              try simp only [Act.put, List.setIfInBounds_toArray, List.set_cons_zero, List.set_cons_succ]
              refine wpAnyH_take (i := 20) (oi := { dst := some 125, op := Op.fieldAddr 31 (Operand.tmp 124) 1, type := 0, pos := "base.go:736", after := #[{ on := 19, ground := Ground.data }], guard := none }) (v := .pointer (some ⟨g, 76 + x * 2 + 1, none⟩)) rfl (by kernel_rfl) (by kernel_rfl) (by kernel_rfl) (fun _ _ _ h => h) (Or.inl ⟨by kernel_rfl, fun W h => (by first | kernel_rfl | go_simp)⟩) b0 ?_
              try simp only [Act.put, List.setIfInBounds_toArray, List.set_cons_zero, List.set_cons_succ]
              refine wpAnyH_take (i := 21) (oi := { dst := some 126, op := Op.load 9 (Operand.tmp 125), type := 9, pos := "base.go:736", after := #[{ on := 20, ground := Ground.data }], guard := none }) (v := .string (m.text x)) rfl (by kernel_rfl) (by kernel_rfl) (by kernel_rfl) (fun _ _ _ h => h) (Or.inl ⟨by kernel_rfl, fun W h => ld_s (.tmp 125) (by kernel_rfl) (by kernel_rfl) W (below_cell h gl c1)⟩) b0 ?_
              try simp only [Act.put, List.setIfInBounds_toArray, List.set_cons_zero, List.set_cons_succ]
              refine wpAnyH_ready (rs := [2]) (by kernel_rfl) (by simp) ?_
              refine AllReadyH.cons (o := { dst := some 107, op := Op.call { callee := Callee.value (Operand.func 20), args := #[Operand.tmp 106], argTypes := #[3] }, type := 9, pos := "base.go:736", after := #[{ on := 1, ground := Ground.data }], guard := none }) rfl (fun K hK => ?_) AllReadyH.nil
              rw [if_pos (by kernel_rfl)]
              go_simp
              refine (unhide N0 _ b0).mono ?_
              rintro e v0 ⟨rfl, d0⟩
              go_wp2_with fail
              refine hK.out _ _ (d0) (fun _ => ?_)
              clear hK K
              try simp only [Act.put, List.setIfInBounds_toArray, List.set_cons_zero, List.set_cons_succ]
              refine wpAnyH_take (i := 3) (oi := { dst := some 108, op := Op.binOp BinOp.add 9 (Operand.const (Value.string { data := #[100, 97, 116, 97, 32] })) (Operand.tmp 107) 9, type := 9, pos := "base.go:736", after := #[{ on := 2, ground := Ground.data }], guard := none }) (v := .string (mkb z1)) rfl (by kernel_rfl) (by kernel_rfl) (by kernel_rfl) (fun _ _ _ h => h) (Or.inl ⟨by kernel_rfl, fun W h => catV (.const (.string ⟨#[100, 97, 116, 97, 32]⟩)) (.tmp 107) (by kernel_rfl) (a := [100, 97, 116, 97, 32]) (by kernel_rfl) (by kernel_rfl) (unhide Z1) (by omega) W⟩) d0 ?_
              try simp only [Act.put, List.setIfInBounds_toArray, List.set_cons_zero, List.set_cons_succ]
              refine wpAnyH_take (i := 4) (oi := { dst := some 109, op := Op.binOp BinOp.add 9 (Operand.tmp 108) (Operand.const (Value.string { data := #[32] })) 9, type := 9, pos := "base.go:736", after := #[{ on := 3, ground := Ground.data }], guard := none }) (v := .string (mkb z2)) rfl (by kernel_rfl) (by kernel_rfl) (by kernel_rfl) (fun _ _ _ h => h) (Or.inl ⟨by kernel_rfl, fun W h => catV (.tmp 108) (.const (.string ⟨#[32]⟩)) (by kernel_rfl) (b := [32]) (by kernel_rfl) (by kernel_rfl) (unhide Z2) (by omega) W⟩) d0 ?_
              try simp only [Act.put, List.setIfInBounds_toArray, List.set_cons_zero, List.set_cons_succ]
              refine wpAnyH_ready (rs := [12]) (by kernel_rfl) (by simp) ?_
              refine AllReadyH.cons (o := { dst := some 117, op := Op.call { callee := Callee.value (Operand.func 20), args := #[Operand.tmp 116], argTypes := #[3] }, type := 9, pos := "base.go:736", after := #[{ on := 11, ground := Ground.data }, { on := 2, ground := Ground.chain }], guard := none }) rfl (fun K hK => ?_) AllReadyH.nil
              rw [if_pos (by kernel_rfl)]
              go_simp
              refine (unhide N1 _ d0).mono ?_
              rintro e v1 ⟨rfl, d1⟩
              clear d0
              go_wp2_with fail
              refine hK.out _ _ (d1) (fun _ => ?_)
              clear hK K
              try simp only [Act.put, List.setIfInBounds_toArray, List.set_cons_zero, List.set_cons_succ]
              refine wpAnyH_take (i := 13) (oi := { dst := some 118, op := Op.binOp BinOp.add 9 (Operand.tmp 109) (Operand.tmp 117) 9, type := 9, pos := "base.go:736", after := #[{ on := 4, ground := Ground.data }, { on := 12, ground := Ground.data }], guard := none }) (v := .string (mkb z3)) rfl (by kernel_rfl) (by kernel_rfl) (by kernel_rfl) (fun _ _ _ h => h) (Or.inl ⟨by kernel_rfl, fun W h => catV (.tmp 109) (.tmp 117) (by kernel_rfl) (by kernel_rfl) (by kernel_rfl) (unhide Z3) (by omega) W⟩) d1 ?_
              try simp only [Act.put, List.setIfInBounds_toArray, List.set_cons_zero, List.set_cons_succ]
              refine wpAnyH_take (i := 14) (oi := { dst := some 119, op := Op.binOp BinOp.add 9 (Operand.tmp 118) (Operand.const (Value.string { data := #[32] })) 9, type := 9, pos := "base.go:736", after := #[{ on := 13, ground := Ground.data }], guard := none }) (v := .string (mkb z4)) rfl (by kernel_rfl) (by kernel_rfl) (by kernel_rfl) (fun _ _ _ h => h) (Or.inl ⟨by kernel_rfl, fun W h => catV (.tmp 118) (.const (.string ⟨#[32]⟩)) (by kernel_rfl) (b := [32]) (by kernel_rfl) (by kernel_rfl) (unhide Z4) (by omega) W⟩) d1 ?_
              try simp only [Act.put, List.setIfInBounds_toArray, List.set_cons_zero, List.set_cons_succ]
              refine wpAnyH_ready (rs := [22]) (by kernel_rfl) (by simp) ?_
              refine AllReadyH.cons (o := { dst := some 127, op := Op.call { callee := Callee.value (Operand.func 12), args := #[Operand.tmp 126], argTypes := #[9] }, type := 9, pos := "base.go:736", after := #[{ on := 21, ground := Ground.data }, { on := 12, ground := Ground.chain }], guard := none }) rfl (fun K hK => ?_) AllReadyH.nil
              rw [if_pos (by kernel_rfl)]
              go_simp
              refine (unhide N2 _ d1).mono ?_
              rintro e v2 ⟨rfl, d2⟩
              clear d1
              go_wp2_with fail
              refine hK.out _ _ (d2) (fun _ => ?_)
              clear hK K
              try simp only [Act.put, List.setIfInBounds_toArray, List.set_cons_zero, List.set_cons_succ]
              refine wpAnyH_take (i := 23) (oi := { dst := some 128, op := Op.binOp BinOp.add 9 (Operand.tmp 119) (Operand.tmp 127) 9, type := 9, pos := "base.go:736", after := #[{ on := 14, ground := Ground.data }, { on := 22, ground := Ground.data }], guard := none }) (v := .string (mkb z5)) rfl (by kernel_rfl) (by kernel_rfl) (by kernel_rfl) (fun _ _ _ h => h) (Or.inl ⟨by kernel_rfl, fun W h => catV (.tmp 119) (.tmp 127) (by kernel_rfl) (by kernel_rfl) (by kernel_rfl) (unhide Z5) (by omega) W⟩) d2 ?_
              try simp only [Act.put, List.setIfInBounds_toArray, List.set_cons_zero, List.set_cons_succ]
              refine wpAnyH_take (i := 24) (oi := { dst := some 129, op := Op.binOp BinOp.add 9 (Operand.tmp 128) (Operand.const (Value.string { data := #[10] })) 9, type := 9, pos := "base.go:736", after := #[{ on := 23, ground := Ground.data }], guard := none }) (v := .string (mkb z6)) rfl (by kernel_rfl) (by kernel_rfl) (by kernel_rfl) (fun _ _ _ h => h) (Or.inl ⟨by kernel_rfl, fun W h => catV (.tmp 128) (.const (.string ⟨#[10]⟩)) (by kernel_rfl) (b := [10]) (by kernel_rfl) (by kernel_rfl) (unhide Z6) (by omega) W⟩) d2 ?_
              try simp only [Act.put, List.setIfInBounds_toArray, List.set_cons_zero, List.set_cons_succ]
              refine wpAnyH_take (i := 25) (oi := { dst := some 130, op := Op.binOp BinOp.add 9 (Operand.tmp 105) (Operand.tmp 129) 9, type := 9, pos := "base.go:736", after := #[{ on := 0, ground := Ground.data }, { on := 24, ground := Ground.data }], guard := none }) (v := .string (mkb zA)) rfl (by kernel_rfl) (by kernel_rfl) (by kernel_rfl) (fun _ _ _ h => h) (Or.inl ⟨by kernel_rfl, fun W h => catV (.tmp 105) (.tmp 129) (by kernel_rfl) (by kernel_rfl) (by kernel_rfl) (unhide ZA) (by omega) W⟩) d2 ?_
              try simp only [Act.put, List.setIfInBounds_toArray, List.set_cons_zero, List.set_cons_succ]
              refine wpAnyH_take (i := 26) (oi := { dst := some 3, op := Op.assign (Operand.tmp 130), type := 9, pos := "base.go:736", after := #[{ on := 25, ground := Ground.data }, { on := 22, ground := Ground.chain }, { on := 0, ground := Ground.phase }, { on := 1, ground := Ground.phase }, { on := 2, ground := Ground.phase }, { on := 3, ground := Ground.phase }, { on := 4, ground := Ground.phase }, { on := 5, ground := Ground.phase }, { on := 6, ground := Ground.phase }, { on := 7, ground := Ground.phase }, { on := 8, ground := Ground.phase }, { on := 9, ground := Ground.phase }, { on := 10, ground := Ground.phase }, { on := 11, ground := Ground.phase }, { on := 12, ground := Ground.phase }, { on := 13, ground := Ground.phase }, { on := 14, ground := Ground.phase }, { on := 15, ground := Ground.phase }, { on := 16, ground := Ground.phase }, { on := 17, ground := Ground.phase }, { on := 18, ground := Ground.phase }, { on := 19, ground := Ground.phase }, { on := 20, ground := Ground.phase }, { on := 21, ground := Ground.phase }, { on := 22, ground := Ground.phase }, { on := 23, ground := Ground.phase }, { on := 24, ground := Ground.phase }, { on := 25, ground := Ground.phase }], guard := none }) (v := .string (mkb zA)) rfl (by kernel_rfl) (by kernel_rfl) (by kernel_rfl) (fun _ _ _ h => h) (Or.inl ⟨by kernel_rfl, fun W h => (by first | kernel_rfl | go_simp)⟩) d2 ?_
              try simp only [Act.put, List.setIfInBounds_toArray, List.set_cons_zero, List.set_cons_succ]
              refine wpAnyH_done (by kernel_rfl) ?_ _
              clear hS b0
              have B9 := hide (show Below w.heap.size w v2 from (unhide BX).trans (d2.mono (unhide BX).size))
              clear d2
              go_wp2_with fail
              go_roundw
              case rel =>
                repeat apply Exists.intro
                exact ⟨⟨x + 1, by omega, by go_num, by rw [unhide EE], B9, L2⟩, rfl⟩
              case measure => simp [intOf]; omega
end Go.Proofs.YtlbgkpibaahglacDoor
