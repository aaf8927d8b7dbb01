/-
  The walk of the reference's (*Bed).room.
-/
import Derived.Test.YtmlhalhjfcfagabGreatYl
import Derived.Test.YtmlhalhjfcfagabGreatYk
import Derived.Test.YtmlhalhjfcfagabGreatJc
namespace Go.Proofs.YtmlhalhjfcfagabGreat
open Go.RowKit
namespace Sft
theorem findAt_in {m : Img} {d : Nat} (hd : d < 3) {s : ByteArray} (hs : s.toList.isEmpty = false) : m.findAt (d : Int) s.toList = m.find d s.toList := by
  unfold Img.findAt
  rw [if_pos ⟨by omega, by omega, hs⟩, Int.toNat_natCast]
set_option maxHeartbeats 1000000 in
set_option maxRecDepth 100000 in
theorem rRoom_any (g : Nat) (m k : Img) (d : Nat) (hd : d < 3) (s : ByteArray) (hs : s.toList.isEmpty = false) (w : World) (hm : HasAt w g 0 m) (hk : HasAt w g 94 k) :
    Calls Tryz.prog 72 #[.pointer (some ⟨g, 0, none⟩), .int .i64 d, .string s] w fun e w' => e = .returned (.bool (!Img.noPlace m k d s)) ∧ Below w.heap.size w w' := by
  have C1 := hide (bSlot_any g m k (d : Int) w hm hk)
  have HK := hide fun W (b : Below w.heap.size w W) => rSlotOf_in g k d hd s hs W (hk.below b hk.lt)
  have E : Img.noPlace m k d s = (decide (Img.freeSlot m k d < 0) || decide (0 ≤ k.find d s.toList)) := by unfold Img.noPlace; rw [findAt_in hd hs]
  rw [E]
  generalize k.find d s.toList = v2 at HK ⊢
  generalize Img.freeSlot m k d = v1 at C1 ⊢
  clear E hm hk
  by_cases h1 : 0 ≤ v1
  · have u1 : decide (v1 ≥ 0) = true := by simpa using h1
    have r1 : decide (v1 < 0) = false := by simp; omega
    have r2 : (!decide (0 ≤ v2)) = decide (v2 < 0) := by
      by_cases e : v2 < 0
      · rw [show decide (v2 < 0) = true by simpa using e, show decide (0 ≤ v2) = false by simp; omega]; rfl
      · rw [show decide (v2 < 0) = false by simpa using e, show decide (0 ≤ v2) = true by simp; omega]; rfl
    rw [r1, Bool.false_or, r2]
    clear r1 r2 h1
    go_enter Tryz.func72, Tryz.ntmps72
    go_wp2_with fail
    refine (unhide C1).mono ?_
    rintro e w1 ⟨rfl, b1⟩
    have B1 := hide (show Below w.heap.size w w1 by obtain ⟨q, hq⟩ := b1; rw [hq]; exact belowN (Below.refl _ _))
    clear b1
    go_wp2_with fail
    refine (unhide HK w1 (unhide B1)).mono ?_
    rintro e wq ⟨rfl, e9⟩
    rw [e9]
    clear e9 wq
    go_wp2_with fail
    go_ret
    exact ⟨by rfl, unhide B1⟩
  · have u1 : decide (v1 ≥ 0) = false := by simpa using h1
    have r1 : decide (v1 < 0) = true := by simp; omega
    rw [r1, Bool.true_or]
    clear r1 h1
    go_enter Tryz.func72, Tryz.ntmps72
    go_wp2_with fail
    refine (unhide C1).mono ?_
    rintro e w1 ⟨rfl, b1⟩
    have B1 := hide (show Below w.heap.size w w1 by obtain ⟨q, hq⟩ := b1; rw [hq]; exact belowN (Below.refl _ _))
    clear b1
    go_wp2_with fail
    go_ret
    exact ⟨by rfl, unhide B1⟩
end Sft
end Go.Proofs.YtmlhalhjfcfagabGreat
namespace Go.Proofs.YtmlhalhjfcfagabGreat
open Go.RowKit
open Idl (Stp chk stpA)
/-- a bed that is being changed -/
structure Bm (w0 w : World) (g : Nat) (rows : Array Value) : Prop where
  row : w.heap[g]? = some (.cells rows 48)
  chg : Idl.Chg (fun i => i = g) w0 w
def Bd (w0 w : World) (g : Nat) (ds tl : Array Value) (m : Img) : Prop := ∃ cs, Bm w0 w g (cs ++ (ds ++ tl)) ∧ IsImg cs m
section
variable {w0 w w' : World} {g : Nat} {cs ds tl rows : Array Value} {m k : Img}
theorem Bm.start (h : w.heap[g]? = some (.cells rows 48)) : Bm w w g rows := ⟨h, ⟨rfl, rfl, rfl, Nat.le_refl _, fun _ _ _ => rfl⟩⟩
theorem Bm.lt (h : Bm w0 w g rows) : g < w.heap.size := (Array.getElem?_eq_some_iff.1 h.row).1
theorem Bm.frozen (h : Bm w0 w g rows) (j : Nat) : w.frozen? ⟨g, j, none⟩ = false := frozen_of_row w g j _ _ h.row
theorem Bm.call (h : Bm w0 w g rows) (hb : Below w.heap.size w w') : Bm w0 w' g rows :=
  ⟨by rw [hb.block _ h.lt]; exact h.row, h.chg.trans (Idl.Chg.of_below (own := fun i => i = g) hb) (fun i hi => .inl hi)⟩
theorem Bm.row' (h : Bm w0 w g rows) (rows' : Array Value) : Bm w0 (w.setRow g rows') g rows' := by
  have hoth : ∀ i, i ≠ g → (w.setRow g rows').heap[i]? = w.heap[i]? := fun i hi => setRow_other _ _ _ _ hi
  have hsz : (w.setRow g rows').heap.size = w.heap.size := by simp [World.setRow]
  exact ⟨setRow_heap w g _ _ _ _ h.row, h.chg.trans (own' := fun i => i = g) ⟨rfl, rfl, rfl, by rw [hsz]; exact Nat.le_refl _, fun i _ hn => hoth i hn⟩ (fun i hi => .inl hi)⟩
theorem Bm.set (h : Bm w0 w g rows) (o : Nat) (v : Value) : Bm w0 (w.setCell ⟨g, o, none⟩ v) g (rows.setIfInBounds o v) := by
  rw [setCell_eq_setRow w g o _ _ _ v h.row]
  exact h.row' _
theorem Bm.has (h : Bm w0 w g (cs ++ (ds ++ tl))) (hm : IsImg cs m) : HasAt w g 0 m := hasAt_of h.row (by rw [Array.size_append, hm.size]; omega) (app_fst hm.size) hm
theorem Bm.hasD (h : Bm w0 w g (cs ++ (ds ++ tl))) (hm : IsImg cs m) (hk : IsImg ds k) : HasAt w g 94 k := hasAt_of h.row (by rw [Array.size_append, Array.size_append, hm.size, hk.size]; omega) (app3_snd hm.size hk.size) hk
theorem Bd.ent (h : Bm w0 w g (cs ++ (ds ++ tl))) (hm : IsImg cs m) {d s : Nat} (hd : d < 3) (hs : s < 4) (e : Ent) (he : e.name.size ≤ maxLen) : Bd w0 (w.setRow g (splice (cs ++ (ds ++ tl)) (40 + d * 12 + s * 3) #[.string e.name, .int .i64 e.ino, .int .i64 e.est])) g ds tl (m.putEnt d s e) := by
  rw [splice3 hm.size hd hs]
  exact ⟨_, h.row' _, hm.putEnt hd hs e he⟩
theorem Bd.ino (h : Bm w0 w g (cs ++ (ds ++ tl))) (hm : IsImg cs m) {n : Nat} (hn : n < 8) (i : Ino) : Bd w0 (w.setRow g (splice (cs ++ (ds ++ tl)) (n * 5) #[.bool i.live, .int .i64 i.stamp, .int .i64 i.links, .int .i64 i.p0, .int .i64 i.p1])) g ds tl (m.putIno n i) := by
  rw [splice5 hm.size hn]
  exact ⟨_, h.row' _, hm.putIno hn i⟩
theorem Bd.lnk (h : Bm w0 w g (cs ++ (ds ++ tl))) (hm : IsImg cs m) {n : Nat} (hn : n < 8) (v : Int) : Bd w0 (w.setCell ⟨g, n * 5 + 2, none⟩ (.int .i64 v)) g ds tl (m.putIno n ⟨m.live n, m.stamp n, v, m.part n 0, m.part n 1⟩) :=
  ⟨_, by rw [← app_set hm.size (by omega)]; exact h.set _ _, hm.putLinks hn v⟩
set_option maxHeartbeats 2000000 in
set_option maxRecDepth 100000 in
theorem rAdd_any (h : Bm w0 w g (cs ++ (ds ++ tl))) (hm : IsImg cs m) (hk : IsImg ds k) {d n s : Nat} (hd : d < 3) (hn : n < 8) (hs : s < 4) (he : Img.freeSlot m k (d : Int) = (s : Int)) (nm : ByteArray) (hnm : nm.size ≤ maxLen) (hlk : 0 ≤ m.links n ∧ m.links n ≤ 100) :
    Calls Tryz.prog 73 #[.pointer (some ⟨g, 0, none⟩), .int .i64 (d : Int), .string nm, .int .i64 (n : Int)] w fun e w' => e = .returned (.tuple #[]) ∧ Bd w0 w' g ds tl (Img.added m k (d : Int) nm n) := by
  have C1 := hide fun W (h1 : Bm w0 W g (cs ++ (ds ++ tl))) => bSlot_any g m k (d : Int) W (h1.has hm) (h1.hasD hm hk)
  rw [he] at C1
  have e1 : Img.added m k (d : Int) nm n = (m.putEnt d s ⟨nm, (n : Int), m.stamp n⟩).putIno n ⟨m.live n, m.stamp n, m.links n + 1, m.part n 0, m.part n 1⟩ := by unfold Img.added; rw [he, Int.toNat_natCast, Int.toNat_natCast]
  rw [e1]
  have HM := hide hm
  have zc := hm.size
  have FM1 := hide (h.call (Below.refl _ _).drew)
  clear h he e1
  go_enter Tryz.func73, Tryz.ntmps73
  go_wp2_with fail
  refine wp_region_F (S := fun W => HasAt W g 0 m) 21 (by kernel_rfl) ((unhide FM1).has (unhide HM)) (fun hS => ?_)
  refine wpAnyF_take (i := 0) (oi := { dst := some 8, op := Op.move (Operand.tmp 0), type := 44, pos := "base.go:498", after := #[], guard := none }) (v := .pointer (some ⟨g, 0, none⟩)) rfl (by kernel_rfl) (by kernel_rfl) (by kernel_rfl) (by kernel_rfl) (fun _ _ _ h => h) (Or.inl ⟨by kernel_rfl, fun W h => (by first | kernel_rfl | go_simp)⟩) hS ?_
  try simp only [Act.put, List.setIfInBounds_toArray, List.set_cons_zero, List.set_cons_succ]
  refine wpAnyF_take (i := 1) (oi := { dst := some 9, op := Op.move (Operand.tmp 1), type := 3, pos := "base.go:498", after := #[], guard := none }) (v := .int .i64 (d : Int)) rfl (by kernel_rfl) (by kernel_rfl) (by kernel_rfl) (by kernel_rfl) (fun _ _ _ h => h) (Or.inl ⟨by kernel_rfl, fun W h => (by first | kernel_rfl | go_simp)⟩) hS ?_
  try simp only [Act.put, List.setIfInBounds_toArray, List.set_cons_zero, List.set_cons_succ]
  refine wpAnyF_take (i := 2) (oi := { dst := some 10, op := Op.move (Operand.tmp 0), type := 44, pos := "base.go:498", after := #[], guard := none }) (v := .pointer (some ⟨g, 0, none⟩)) rfl (by kernel_rfl) (by kernel_rfl) (by kernel_rfl) (by kernel_rfl) (fun _ _ _ h => h) (Or.inl ⟨by kernel_rfl, fun W h => (by first | kernel_rfl | go_simp)⟩) hS ?_
  try simp only [Act.put, List.setIfInBounds_toArray, List.set_cons_zero, List.set_cons_succ]
  refine wpAnyF_take (i := 3) (oi := { dst := some 11, op := Op.move (Operand.tmp 1), type := 3, pos := "base.go:498", after := #[], guard := none }) (v := .int .i64 (d : Int)) rfl (by kernel_rfl) (by kernel_rfl) (by kernel_rfl) (by kernel_rfl) (fun _ _ _ h => h) (Or.inl ⟨by kernel_rfl, fun W h => (by first | kernel_rfl | go_simp)⟩) hS ?_
  try simp only [Act.put, List.setIfInBounds_toArray, List.set_cons_zero, List.set_cons_succ]
  refine wpAnyF_take (i := 5) (oi := { dst := some 13, op := Op.move (Operand.tmp 2), type := 9, pos := "base.go:498", after := #[], guard := none }) (v := .string nm) rfl (by kernel_rfl) (by kernel_rfl) (by kernel_rfl) (by kernel_rfl) (fun _ _ _ h => h) (Or.inl ⟨by kernel_rfl, fun W h => (by first | kernel_rfl | go_simp)⟩) hS ?_
  try simp only [Act.put, List.setIfInBounds_toArray, List.set_cons_zero, List.set_cons_succ]
  refine wpAnyF_take (i := 6) (oi := { dst := some 14, op := Op.move (Operand.tmp 3), type := 3, pos := "base.go:498", after := #[], guard := none }) (v := .int .i64 (n : Int)) rfl (by kernel_rfl) (by kernel_rfl) (by kernel_rfl) (by kernel_rfl) (fun _ _ _ h => h) (Or.inl ⟨by kernel_rfl, fun W h => (by first | kernel_rfl | go_simp)⟩) hS ?_
  try simp only [Act.put, List.setIfInBounds_toArray, List.set_cons_zero, List.set_cons_succ]
  refine wpAnyF_take (i := 7) (oi := { dst := some 15, op := Op.move (Operand.tmp 0), type := 44, pos := "base.go:498", after := #[], guard := none }) (v := .pointer (some ⟨g, 0, none⟩)) rfl (by kernel_rfl) (by kernel_rfl) (by kernel_rfl) (by kernel_rfl) (fun _ _ _ h => h) (Or.inl ⟨by kernel_rfl, fun W h => (by first | kernel_rfl | go_simp)⟩) hS ?_
  try simp only [Act.put, List.setIfInBounds_toArray, List.set_cons_zero, List.set_cons_succ]
  refine wpAnyF_take (i := 8) (oi := { dst := some 16, op := Op.move (Operand.tmp 3), type := 3, pos := "base.go:498", after := #[], guard := none }) (v := .int .i64 (n : Int)) rfl (by kernel_rfl) (by kernel_rfl) (by kernel_rfl) (by kernel_rfl) (fun _ _ _ h => h) (Or.inl ⟨by kernel_rfl, fun W h => (by first | kernel_rfl | go_simp)⟩) hS ?_
  try simp only [Act.put, List.setIfInBounds_toArray, List.set_cons_zero, List.set_cons_succ]
  refine wpAnyF_take (i := 9) (oi := { dst := some 17, op := Op.nilCheck (Operand.tmp 15), type := 0, pos := "base.go:498", after := #[{ on := 7, ground := Ground.data }], guard := none }) (v := .pointer (some ⟨g, 0, none⟩)) rfl (by kernel_rfl) (by kernel_rfl) (by kernel_rfl) (by kernel_rfl) (fun _ _ _ h => h) (Or.inl ⟨by kernel_rfl, fun W h => (by first | kernel_rfl | go_simp)⟩) hS ?_
  try simp only [Act.put, List.setIfInBounds_toArray, List.set_cons_zero, List.set_cons_succ]
  refine wpAnyF_take (i := 10) (oi := { dst := some 18, op := Op.fieldAddr 48 (Operand.tmp 17) 0, type := 0, pos := "base.go:498", after := #[{ on := 9, ground := Ground.data }], guard := none }) (v := .pointer (some ⟨g, 0, none⟩)) rfl (by kernel_rfl) (by kernel_rfl) (by kernel_rfl) (by kernel_rfl) (fun _ _ _ h => h) (Or.inl ⟨by kernel_rfl, fun W h => (by first | kernel_rfl | go_simp)⟩) hS ?_
  try simp only [Act.put, List.setIfInBounds_toArray, List.set_cons_zero, List.set_cons_succ]
  refine wpAnyF_take (i := 11) (oi := { dst := some 19, op := Op.fieldAddr 34 (Operand.tmp 18) 0, type := 0, pos := "base.go:498", after := #[{ on := 10, ground := Ground.data }], guard := none }) (v := .pointer (some ⟨g, 0, none⟩)) rfl (by kernel_rfl) (by kernel_rfl) (by kernel_rfl) (by kernel_rfl) (fun _ _ _ h => h) (Or.inl ⟨by kernel_rfl, fun W h => (by first | kernel_rfl | go_simp)⟩) hS ?_
  try simp only [Act.put, List.setIfInBounds_toArray, List.set_cons_zero, List.set_cons_succ]
  refine wpAnyF_take (i := 12) (oi := { dst := some 20, op := Op.indexAddr 25 (Operand.tmp 19) (Operand.tmp 16), type := 0, pos := "base.go:498", after := #[{ on := 11, ground := Ground.data }, { on := 8, ground := Ground.data }], guard := none }) (v := .pointer (some ⟨g, n * 5, none⟩)) rfl (by kernel_rfl) (by kernel_rfl) (by kernel_rfl) (by kernel_rfl) (fun _ _ _ h => h) (Or.inl ⟨by kernel_rfl, fun W h => Op1.ix_ino (.tmp 19) (.tmp 16) (by kernel_rfl) (by kernel_rfl) (by kernel_rfl) (hn) W⟩) hS ?_
  try simp only [Act.put, List.setIfInBounds_toArray, List.set_cons_zero, List.set_cons_succ]
  refine wpAnyF_take (i := 13) (oi := { dst := some 21, op := Op.fieldAddr 24 (Operand.tmp 20) 1, type := 0, pos := "base.go:498", after := #[{ on := 12, ground := Ground.data }], guard := none }) (v := .pointer (some ⟨g, n * 5 + 1, none⟩)) rfl (by kernel_rfl) (by kernel_rfl) (by kernel_rfl) (by kernel_rfl) (fun _ _ _ h => h) (Or.inl ⟨by kernel_rfl, fun W h => (by first | kernel_rfl | go_simp)⟩) hS ?_
  try simp only [Act.put, List.setIfInBounds_toArray, List.set_cons_zero, List.set_cons_succ]
  refine wpAnyF_take (i := 14) (oi := { dst := some 22, op := Op.load 3 (Operand.tmp 21), type := 3, pos := "base.go:498", after := #[{ on := 13, ground := Ground.data }], guard := none }) (v := .int .i64 (m.stamp n)) rfl (by kernel_rfl) (by kernel_rfl) (by kernel_rfl) (by kernel_rfl) (fun _ _ _ h => h) (Or.inl ⟨by kernel_rfl, fun W h => Op1.ld_int (.tmp 21) (by kernel_rfl) (by kernel_rfl) W (by have := h.stamp n hn; rw [Nat.zero_add] at this; exact this)⟩) hS ?_
  try simp only [Act.put, List.setIfInBounds_toArray, List.set_cons_zero, List.set_cons_succ]
  refine wpAnyF_take (i := 15) (oi := { dst := some 23, op := Op.build 27 #[(0, Operand.tmp 13), (1, Operand.tmp 14), (2, Operand.tmp 22)], type := 27, pos := "base.go:498", after := #[{ on := 5, ground := Ground.data }, { on := 6, ground := Ground.data }, { on := 14, ground := Ground.data }], guard := none }) (v := .agg #[.string nm, .int .i64 (n : Int), .int .i64 (m.stamp n)]) rfl (by kernel_rfl) (by kernel_rfl) (by kernel_rfl) (by kernel_rfl) (fun _ _ _ h => h) (Or.inl ⟨by kernel_rfl, fun W h => (by first | kernel_rfl | go_simp)⟩) hS ?_
  try simp only [Act.put, List.setIfInBounds_toArray, List.set_cons_zero, List.set_cons_succ]
  refine wpAnyF_free (i := 16) (oi := { dst := some 24, op := Op.nilCheck (Operand.tmp 8), type := 0, pos := "base.go:498", after := #[{ on := 0, ground := Ground.data }], guard := none }) (v := .pointer (some ⟨g, 0, none⟩)) rfl (by kernel_rfl) (by kernel_rfl) (by kernel_rfl) (by kernel_rfl) (fun _ _ _ h => h) (Or.inl ⟨by kernel_rfl, fun W _ => (by first | kernel_rfl | go_simp)⟩) hS ?_
  try simp only [Act.put, List.setIfInBounds_toArray, List.set_cons_zero, List.set_cons_succ]
  refine wpAnyF_free (i := 17) (oi := { dst := some 25, op := Op.fieldAddr 48 (Operand.tmp 24) 0, type := 0, pos := "base.go:498", after := #[{ on := 16, ground := Ground.data }], guard := none }) (v := .pointer (some ⟨g, 0, none⟩)) rfl (by kernel_rfl) (by kernel_rfl) (by kernel_rfl) (by kernel_rfl) (fun _ _ _ h => h) (Or.inl ⟨by kernel_rfl, fun W _ => (by first | kernel_rfl | go_simp)⟩) hS ?_
  try simp only [Act.put, List.setIfInBounds_toArray, List.set_cons_zero, List.set_cons_succ]
  refine wpAnyF_free (i := 18) (oi := { dst := some 26, op := Op.fieldAddr 34 (Operand.tmp 25) 1, type := 0, pos := "base.go:498", after := #[{ on := 17, ground := Ground.data }], guard := none }) (v := .pointer (some ⟨g, 40, none⟩)) rfl (by kernel_rfl) (by kernel_rfl) (by kernel_rfl) (by kernel_rfl) (fun _ _ _ h => h) (Or.inl ⟨by kernel_rfl, fun W _ => (by first | kernel_rfl | go_simp)⟩) hS ?_
  try simp only [Act.put, List.setIfInBounds_toArray, List.set_cons_zero, List.set_cons_succ]
  refine wpAnyF_free (i := 19) (oi := { dst := some 27, op := Op.indexAddr 29 (Operand.tmp 26) (Operand.tmp 9), type := 0, pos := "base.go:498", after := #[{ on := 18, ground := Ground.data }, { on := 1, ground := Ground.data }], guard := none }) (v := .pointer (some ⟨g, 40 + d * 12, none⟩)) rfl (by kernel_rfl) (by kernel_rfl) (by kernel_rfl) (by kernel_rfl) (fun _ _ _ h => h) (Or.inl ⟨by kernel_rfl, fun W _ => Op1.ix_dir (.tmp 26) (.tmp 9) (by kernel_rfl) (by kernel_rfl) (by kernel_rfl) (hd) W⟩) hS ?_
  try simp only [Act.put, List.setIfInBounds_toArray, List.set_cons_zero, List.set_cons_succ]
  generalize World.drew _ = W0 at hS FM1 ⊢
  refine wpAnyF_one (i := 4) (o := { dst := some 12, op := Op.call { callee := Callee.value (Operand.func 96), args := #[Operand.tmp 10, Operand.tmp 11], argTypes := #[44, 3] }, type := 3, pos := "base.go:498", after := #[{ on := 2, ground := Ground.data }, { on := 3, ground := Ground.data }], guard := none }) (by kernel_rfl) rfl (by kernel_rfl) (fun K hK => ?_)
  go_simp
  refine (unhide C1 W0 (unhide FM1)).mono ?_
  rintro e w1 ⟨rfl, q1, e9⟩
  have FM2 := hide ((unhide FM1).call (show Below W0.heap.size W0 w1 by rw [e9]; exact belowN (Below.refl _ _)))
  clear e9
  go_wp2_with fail
  have hS1 := (unhide FM2).has (unhide HM)
  refine hK.out _ _ (fun _ => hS1) ?_
  clear hK K
  try simp only [Act.put, List.setIfInBounds_toArray, List.set_cons_zero, List.set_cons_succ]
  refine wpAnyF_take (i := 20) (oi := { dst := some 28, op := Op.indexAddr 28 (Operand.tmp 27) (Operand.tmp 12), type := 0, pos := "base.go:498", after := #[{ on := 19, ground := Ground.data }, { on := 4, ground := Ground.data }, { on := 0, ground := Ground.phase }, { on := 1, ground := Ground.phase }, { on := 2, ground := Ground.phase }, { on := 3, ground := Ground.phase }, { on := 4, ground := Ground.phase }, { on := 5, ground := Ground.phase }, { on := 6, ground := Ground.phase }, { on := 7, ground := Ground.phase }, { on := 8, ground := Ground.phase }, { on := 9, ground := Ground.phase }, { on := 10, ground := Ground.phase }, { on := 11, ground := Ground.phase }, { on := 12, ground := Ground.phase }, { on := 13, ground := Ground.phase }, { on := 14, ground := Ground.phase }, { on := 15, ground := Ground.phase }], guard := none }) (v := .pointer (some ⟨g, 40 + d * 12 + s * 3, none⟩)) rfl (by kernel_rfl) (by kernel_rfl) (by kernel_rfl) (by kernel_rfl) (fun _ _ _ h => h) (Or.inl ⟨by kernel_rfl, fun W h => Op1.ix_slot (.tmp 27) (.tmp 12) (by kernel_rfl) (by kernel_rfl) (by kernel_rfl) (hs) W⟩) hS1 ?_
  try simp only [Act.put, List.setIfInBounds_toArray, List.set_cons_zero, List.set_cons_succ]
  refine wpAnyF_last (o := { dst := none, op := Op.store 27 (Operand.tmp 28) (Operand.tmp 23), type := 0, pos := "base.go:498", after := #[{ on := 20, ground := Ground.data }, { on := 15, ground := Ground.data }, { on := 4, ground := Ground.chain }, { on := 0, ground := Ground.phase }, { on := 1, ground := Ground.phase }, { on := 2, ground := Ground.phase }, { on := 3, ground := Ground.phase }, { on := 4, ground := Ground.phase }, { on := 5, ground := Ground.phase }, { on := 6, ground := Ground.phase }, { on := 7, ground := Ground.phase }, { on := 8, ground := Ground.phase }, { on := 9, ground := Ground.phase }, { on := 10, ground := Ground.phase }, { on := 11, ground := Ground.phase }, { on := 12, ground := Ground.phase }, { on := 13, ground := Ground.phase }, { on := 14, ground := Ground.phase }, { on := 15, ground := Ground.phase }], guard := none }) (by kernel_rfl) rfl (by kernel_rfl) (by kernel_rfl) (fun K hK => ?_)
  refine Op1.st_part (cells := #[.string nm, .int .i64 (n : Int), .int .i64 (m.stamp n)]) (o0 := 40 + d * 12 + s * 3) 27 (.tmp 28) (.tmp 23) (by kernel_rfl) rfl (by kernel_rfl) (by kernel_rfl) (unhide FM2).row sz_ent (by have := (unhide HM).size; simp; omega) (by simp [Value.oneCell']) ?_
  refine hK.out _ _ ?_
  clear hK K
  try simp only [Act.put, List.setIfInBounds_toArray, List.set_cons_zero, List.set_cons_succ]
  refine wpAnyF_done (by kernel_rfl) ?_ _
  obtain ⟨cs1, f3, hm3⟩ := Bd.ent (unhide FM2) (unhide HM) hd hs ⟨nm, (n : Int), m.stamp n⟩ hnm
  have FM3 := hide f3
  have HM3 := hide hm3
  clear f3 hm3 hS hS1 FM1 FM2
  generalize w1.setRow g (splice (cs ++ (ds ++ tl)) (40 + d * 12 + s * 3) #[.string nm, .int .i64 (n : Int), .int .i64 (m.stamp n)]) = W3 at FM3 ⊢
  have FM4 := hide ((unhide FM3).call (Below.refl _ _).drew)
  go_wp2_with fail
  refine wp_region_F (S := fun W => HasAt W g 0 (m.putEnt d s ⟨nm, (n : Int), m.stamp n⟩)) 14 (by kernel_rfl) ((unhide FM4).has (unhide HM3)) (fun hS => ?_)
  refine wpAnyF_take (i := 0) (oi := { dst := some 29, op := Op.move (Operand.tmp 0), type := 44, pos := "base.go:499", after := #[], guard := none }) (v := .pointer (some ⟨g, 0, none⟩)) rfl (by kernel_rfl) (by kernel_rfl) (by kernel_rfl) (by kernel_rfl) (fun _ _ _ h => h) (Or.inl ⟨by kernel_rfl, fun W h => (by first | kernel_rfl | go_simp)⟩) hS ?_
  try simp only [Act.put, List.setIfInBounds_toArray, List.set_cons_zero, List.set_cons_succ]
  refine wpAnyF_take (i := 1) (oi := { dst := some 30, op := Op.move (Operand.tmp 3), type := 3, pos := "base.go:499", after := #[], guard := none }) (v := .int .i64 (n : Int)) rfl (by kernel_rfl) (by kernel_rfl) (by kernel_rfl) (by kernel_rfl) (fun _ _ _ h => h) (Or.inl ⟨by kernel_rfl, fun W h => (by first | kernel_rfl | go_simp)⟩) hS ?_
  try simp only [Act.put, List.setIfInBounds_toArray, List.set_cons_zero, List.set_cons_succ]
  refine wpAnyF_take (i := 2) (oi := { dst := some 31, op := Op.nilCheck (Operand.tmp 29), type := 0, pos := "base.go:499", after := #[{ on := 0, ground := Ground.data }], guard := none }) (v := .pointer (some ⟨g, 0, none⟩)) rfl (by kernel_rfl) (by kernel_rfl) (by kernel_rfl) (by kernel_rfl) (fun _ _ _ h => h) (Or.inl ⟨by kernel_rfl, fun W h => (by first | kernel_rfl | go_simp)⟩) hS ?_
  try simp only [Act.put, List.setIfInBounds_toArray, List.set_cons_zero, List.set_cons_succ]
  refine wpAnyF_take (i := 3) (oi := { dst := some 32, op := Op.fieldAddr 48 (Operand.tmp 31) 0, type := 0, pos := "base.go:499", after := #[{ on := 2, ground := Ground.data }], guard := none }) (v := .pointer (some ⟨g, 0, none⟩)) rfl (by kernel_rfl) (by kernel_rfl) (by kernel_rfl) (by kernel_rfl) (fun _ _ _ h => h) (Or.inl ⟨by kernel_rfl, fun W h => (by first | kernel_rfl | go_simp)⟩) hS ?_
  try simp only [Act.put, List.setIfInBounds_toArray, List.set_cons_zero, List.set_cons_succ]
  refine wpAnyF_take (i := 4) (oi := { dst := some 33, op := Op.fieldAddr 34 (Operand.tmp 32) 0, type := 0, pos := "base.go:499", after := #[{ on := 3, ground := Ground.data }], guard := none }) (v := .pointer (some ⟨g, 0, none⟩)) rfl (by kernel_rfl) (by kernel_rfl) (by kernel_rfl) (by kernel_rfl) (fun _ _ _ h => h) (Or.inl ⟨by kernel_rfl, fun W h => (by first | kernel_rfl | go_simp)⟩) hS ?_
  try simp only [Act.put, List.setIfInBounds_toArray, List.set_cons_zero, List.set_cons_succ]
  refine wpAnyF_take (i := 5) (oi := { dst := some 34, op := Op.indexAddr 25 (Operand.tmp 33) (Operand.tmp 30), type := 0, pos := "base.go:499", after := #[{ on := 4, ground := Ground.data }, { on := 1, ground := Ground.data }], guard := none }) (v := .pointer (some ⟨g, n * 5, none⟩)) rfl (by kernel_rfl) (by kernel_rfl) (by kernel_rfl) (by kernel_rfl) (fun _ _ _ h => h) (Or.inl ⟨by kernel_rfl, fun W h => Op1.ix_ino (.tmp 33) (.tmp 30) (by kernel_rfl) (by kernel_rfl) (by kernel_rfl) (hn) W⟩) hS ?_
  try simp only [Act.put, List.setIfInBounds_toArray, List.set_cons_zero, List.set_cons_succ]
  refine wpAnyF_take (i := 6) (oi := { dst := some 35, op := Op.fieldAddr 24 (Operand.tmp 34) 2, type := 0, pos := "base.go:499", after := #[{ on := 5, ground := Ground.data }], guard := none }) (v := .pointer (some ⟨g, n * 5 + 2, none⟩)) rfl (by kernel_rfl) (by kernel_rfl) (by kernel_rfl) (by kernel_rfl) (fun _ _ _ h => h) (Or.inl ⟨by kernel_rfl, fun W h => (by first | kernel_rfl | go_simp)⟩) hS ?_
  try simp only [Act.put, List.setIfInBounds_toArray, List.set_cons_zero, List.set_cons_succ]
  refine wpAnyF_take (i := 7) (oi := { dst := some 36, op := Op.load 3 (Operand.tmp 35), type := 3, pos := "base.go:499", after := #[{ on := 6, ground := Ground.data }], guard := none }) (v := .int .i64 (m.links n)) rfl (by kernel_rfl) (by kernel_rfl) (by kernel_rfl) (by kernel_rfl) (fun _ _ _ h => h) (Or.inl ⟨by kernel_rfl, fun W h => Op1.ld_int (.tmp 35) (by kernel_rfl) (by kernel_rfl) W (by have := h.links n hn; rw [Nat.zero_add] at this; exact this)⟩) hS ?_
  try simp only [Act.put, List.setIfInBounds_toArray, List.set_cons_zero, List.set_cons_succ]
  refine wpAnyF_take (i := 8) (oi := { dst := some 37, op := Op.binOp BinOp.add 3 (Operand.tmp 36) (Operand.const (Value.int IntKind.i64 1)) 3, type := 3, pos := "base.go:499", after := #[{ on := 7, ground := Ground.data }], guard := none }) (v := .int .i64 (m.links n + 1)) rfl (by kernel_rfl) (by kernel_rfl) (by kernel_rfl) (by kernel_rfl) (fun _ _ _ h => h) (Or.inl ⟨by kernel_rfl, fun W h => Op1.add1 (.tmp 36) (by kernel_rfl) (by kernel_rfl) (by kernel_rfl) (by omega) W⟩) hS ?_
  try simp only [Act.put, List.setIfInBounds_toArray, List.set_cons_zero, List.set_cons_succ]
  refine wpAnyF_free (i := 9) (oi := { dst := some 38, op := Op.nilCheck (Operand.tmp 29), type := 0, pos := "base.go:499", after := #[{ on := 0, ground := Ground.data }], guard := none }) (v := .pointer (some ⟨g, 0, none⟩)) rfl (by kernel_rfl) (by kernel_rfl) (by kernel_rfl) (by kernel_rfl) (fun _ _ _ h => h) (Or.inl ⟨by kernel_rfl, fun W _ => (by first | kernel_rfl | go_simp)⟩) hS ?_
  try simp only [Act.put, List.setIfInBounds_toArray, List.set_cons_zero, List.set_cons_succ]
  refine wpAnyF_free (i := 10) (oi := { dst := some 39, op := Op.fieldAddr 48 (Operand.tmp 38) 0, type := 0, pos := "base.go:499", after := #[{ on := 9, ground := Ground.data }], guard := none }) (v := .pointer (some ⟨g, 0, none⟩)) rfl (by kernel_rfl) (by kernel_rfl) (by kernel_rfl) (by kernel_rfl) (fun _ _ _ h => h) (Or.inl ⟨by kernel_rfl, fun W _ => (by first | kernel_rfl | go_simp)⟩) hS ?_
  try simp only [Act.put, List.setIfInBounds_toArray, List.set_cons_zero, List.set_cons_succ]
  refine wpAnyF_free (i := 11) (oi := { dst := some 40, op := Op.fieldAddr 34 (Operand.tmp 39) 0, type := 0, pos := "base.go:499", after := #[{ on := 10, ground := Ground.data }], guard := none }) (v := .pointer (some ⟨g, 0, none⟩)) rfl (by kernel_rfl) (by kernel_rfl) (by kernel_rfl) (by kernel_rfl) (fun _ _ _ h => h) (Or.inl ⟨by kernel_rfl, fun W _ => (by first | kernel_rfl | go_simp)⟩) hS ?_
  try simp only [Act.put, List.setIfInBounds_toArray, List.set_cons_zero, List.set_cons_succ]
  refine wpAnyF_free (i := 12) (oi := { dst := some 41, op := Op.indexAddr 25 (Operand.tmp 40) (Operand.tmp 30), type := 0, pos := "base.go:499", after := #[{ on := 11, ground := Ground.data }, { on := 1, ground := Ground.data }, { on := 0, ground := Ground.phase }, { on := 1, ground := Ground.phase }, { on := 2, ground := Ground.phase }, { on := 3, ground := Ground.phase }, { on := 4, ground := Ground.phase }, { on := 5, ground := Ground.phase }, { on := 6, ground := Ground.phase }, { on := 7, ground := Ground.phase }, { on := 8, ground := Ground.phase }], guard := none }) (v := .pointer (some ⟨g, n * 5, none⟩)) rfl (by kernel_rfl) (by kernel_rfl) (by kernel_rfl) (by kernel_rfl) (fun _ _ _ h => h) (Or.inl ⟨by kernel_rfl, fun W _ => Op1.ix_ino (.tmp 40) (.tmp 30) (by kernel_rfl) (by kernel_rfl) (by kernel_rfl) (hn) W⟩) hS ?_
  try simp only [Act.put, List.setIfInBounds_toArray, List.set_cons_zero, List.set_cons_succ]
  refine wpAnyF_take (i := 13) (oi := { dst := some 42, op := Op.fieldAddr 24 (Operand.tmp 41) 2, type := 0, pos := "base.go:499", after := #[{ on := 12, ground := Ground.data }, { on := 0, ground := Ground.phase }, { on := 1, ground := Ground.phase }, { on := 2, ground := Ground.phase }, { on := 3, ground := Ground.phase }, { on := 4, ground := Ground.phase }, { on := 5, ground := Ground.phase }, { on := 6, ground := Ground.phase }, { on := 7, ground := Ground.phase }, { on := 8, ground := Ground.phase }], guard := none }) (v := .pointer (some ⟨g, n * 5 + 2, none⟩)) rfl (by kernel_rfl) (by kernel_rfl) (by kernel_rfl) (by kernel_rfl) (fun _ _ _ h => h) (Or.inl ⟨by kernel_rfl, fun W h => (by first | kernel_rfl | go_simp)⟩) hS ?_
  try simp only [Act.put, List.setIfInBounds_toArray, List.set_cons_zero, List.set_cons_succ]
  refine wpAnyF_last (o := { dst := none, op := Op.store 3 (Operand.tmp 42) (Operand.tmp 37), type := 0, pos := "base.go:499", after := #[{ on := 13, ground := Ground.data }, { on := 8, ground := Ground.data }, { on := 0, ground := Ground.phase }, { on := 1, ground := Ground.phase }, { on := 2, ground := Ground.phase }, { on := 3, ground := Ground.phase }, { on := 4, ground := Ground.phase }, { on := 5, ground := Ground.phase }, { on := 6, ground := Ground.phase }, { on := 7, ground := Ground.phase }, { on := 8, ground := Ground.phase }], guard := none }) (by kernel_rfl) rfl (by kernel_rfl) (by kernel_rfl) (fun K hK => ?_)
  refine Op1.st_int (.tmp 42) (.tmp 37) (by kernel_rfl) rfl (g := g) (o0 := n * 5 + 2) (v := m.links n + 1) (by kernel_rfl) (by kernel_rfl) (u := .int .i64 (m.links n)) (by have := hS.links n hn; rw [Nat.zero_add] at this; exact this) ((unhide FM4).frozen _) ?_
  refine hK.out _ _ ?_
  clear hK K
  try simp only [Act.put, List.setIfInBounds_toArray, List.set_cons_zero, List.set_cons_succ]
  refine wpAnyF_done (by kernel_rfl) ?_ _
  go_wp2_with fail
  go_end0
  exact ⟨rfl, Bd.lnk (unhide FM4) (unhide HM3) hn (m.links n + 1)⟩
end
end Go.Proofs.YtmlhalhjfcfagabGreat
namespace Go.Proofs.YtmlhalhjfcfagabGreat
open Go.RowKit
open Idl (Stp chk stpA)
namespace Sft
theorem blank_names : Img.anyB (fun d => Img.anyB (fun s => blankI.named d s) 4) 3 = false := by kernel_rfl
theorem blank_find {d : Nat} (hd : d < 3) {s : ByteArray} (hs : s.toList.isEmpty = false) : blankI.find d s.toList = -1 := by
  unfold Img.find
  rcases Img.firstI_cases (fun t => (blankI.name d t).toList == s.toList) 4 with ⟨h1, _⟩ | ⟨k, hk, _, h2, _⟩
  · exact h1
  · exfalso
    have := Img.anyB_false.1 (Img.anyB_false.1 blank_names d hd) k hk
    unfold Img.named at this
    simp only [Bool.not_eq_false'] at this
    have e : (blankI.name d k).toList = s.toList := by simpa using h2
    rw [e, hs] at this; cases this
theorem blank_slot0 : ∀ d : Nat, d < 3 → Img.freeSlot blankI blankI (d : Int) = ((0 : Nat) : Int)
  | 0, _ => by kernel_rfl
  | 1, _ => by kernel_rfl
  | 2, _ => by kernel_rfl
theorem blank_place {d : Nat} (hd : d < 3) {s : ByteArray} (hs : s.toList.isEmpty = false) : Img.noPlace blankI blankI (d : Int) s = false := by
  unfold Img.noPlace
  rw [blank_slot0 d hd, findAt_in hd hs, blank_find hd hs]; rfl
def made : Array Value := ((put5v blankCells 0 Ino.none).setIfInBounds 0 (.bool true)).setIfInBounds 1 (.int .i64 1)
theorem made_size : made.size = 94 := by unfold made put5v; simp [size_blank]
theorem made_kinds : Kinds made := .of made_size (by kernel_rfl)
theorem made_is : IsImg made (imgOf made) := made_kinds.isImg
theorem made_slot : ∀ d : Nat, d < 3 → Img.freeSlot (imgOf made) blankI (d : Int) = ((0 : Nat) : Int)
  | 0, _ => by kernel_rfl
  | 1, _ => by kernel_rfl
  | 2, _ => by kernel_rfl
theorem made_links : (imgOf made).links 0 = 0 := by kernel_rfl
def tail1 : Array Value := #[.int .i64 1, .int .i64 0, .int .i64 0, .int .i64 0, .int .i64 0]
theorem cell188 : (blankCells ++ (blankCells ++ bedTail))[188]? = some (.int .i64 0) := by kernel_rfl
theorem row1 : (blankCells ++ (blankCells ++ bedTail)).setIfInBounds 188 (.int .i64 1) = blankCells ++ (blankCells ++ tail1) := by kernel_rfl
end Sft
section
variable {w W : World} {g : Nat}
set_option maxHeartbeats 4000000 in
set_option maxRecDepth 100000 in
theorem files0_blank (h : W.heap[g]? = some (.cells (blankCells ++ (blankCells ++ Sft.bedTail)) 48)) (x : Stp) (hn : x.name.size ≤ maxLen) (ht : x.to.size ≤ maxLen) (hx : x.text.size ≤ maxLen) :
    Calls Tryz.prog 51 #[.pointer (some ⟨g, 0, none⟩), .agg (stpA x)] W fun e w' => (∃ c : Int, e = .returned (.int .i64 c)) ∧ Idl.Chg (fun i => i = g) W w' := by
  have BEL := hide (show Below W.heap.size W (W.alloc (.cells (stpA x) 37)) from (Below.refl _ W).alloc (Nat.le_refl _) _)
  have C1 := hide (Idl.stepFault_any x hn ht hx (W.alloc (.cells (stpA x) 37)))
  have HC := hide fun W' bW => stp_box W x W' bW
  have M0 := hide ((Bm.start h).call (unhide BEL))
  have GN := hide (show W.heap.size ≠ g from by have := (Array.getElem?_eq_some_iff.1 h).1; omega)
  have RX := hide (heap_alloc_last W (.cells (stpA x) 37))
  have CH := hide fun c => Img.chk_names (x := x) c
  obtain ⟨kind, dir, toDir, p, name, tu, text⟩ := x
  clear h
  by_cases hc : chk ⟨kind, dir, toDir, p, name, tu, text⟩ = 0
  · obtain ⟨_, _, hd, hnm, _, _⟩ := unhide CH hc
    dsimp only at hd hnm
    have hne := Img.nm_ne hnm
    obtain ⟨d, hd0⟩ := Int.eq_ofNat_of_zero_le hd.1
    have hd3 : d < 3 := by omega
    rw [hc] at C1
    clear hc CH hd hnm
    subst hd0
    simp only [stpA] at C1
    go_enter Tryz.func51, Tryz.ntmps51
    go_wp2_with fail
    refine (unhide C1).mono ?_
    rintro e w1 ⟨rfl, b1⟩
    have M1 := hide ((unhide M0).call b1)
    have HD := hide (b1.trans ((Below.refl w1.heap.size w1).drew.mono b1.size))
    have M2 := hide ((unhide M1).call (Below.refl w1.heap.size w1).drew)
    have HB := hide b1
    clear b1 C1
    generalize W.heap.size = gx at *
    go_wp2_with fail
    refine wp_region_held_drew (S := fun W' => HasAt W' g 0 blankI ∧ W'.cell? ⟨gx, 1, none⟩ = some (.int .i64 (d : Int)) ∧ W'.cell? ⟨gx, 4, none⟩ = some (.string name)) (by kernel_rfl) (⟨(unhide M2).has blank_is, unhide HC _ (unhide HD) 1 _ rfl, unhide HC _ (unhide HD) 4 _ rfl⟩) (fun hS => ?_)
    refine wpAnyH_take (i := 0) (oi := { dst := some 16, op := Op.move (Operand.tmp 0), type := 44, pos := "base.go:507", after := #[], guard := none }) (v := .pointer (some ⟨g, 0, none⟩)) rfl (by kernel_rfl) (by kernel_rfl) (by kernel_rfl) (fun _ _ _ h => h) (Or.inl ⟨by kernel_rfl, fun W h => (by first | kernel_rfl | go_simp)⟩) hS ?_
    try simp only [Act.put, List.setIfInBounds_toArray, List.set_cons_zero, List.set_cons_succ]
    refine wpAnyH_take (i := 1) (oi := { dst := some 17, op := Op.nilCheck (Operand.tmp 16), type := 0, pos := "base.go:507", after := #[{ on := 0, ground := Ground.data }], guard := none }) (v := .pointer (some ⟨g, 0, none⟩)) rfl (by kernel_rfl) (by kernel_rfl) (by kernel_rfl) (fun _ _ _ h => h) (Or.inl ⟨by kernel_rfl, fun W h => (by first | kernel_rfl | go_simp)⟩) hS ?_
    try simp only [Act.put, List.setIfInBounds_toArray, List.set_cons_zero, List.set_cons_succ]
    refine wpAnyH_take (i := 2) (oi := { dst := some 18, op := Op.fieldAddr 48 (Operand.tmp 17) 0, type := 0, pos := "base.go:507", after := #[{ on := 1, ground := Ground.data }], guard := none }) (v := .pointer (some ⟨g, 0, none⟩)) rfl (by kernel_rfl) (by kernel_rfl) (by kernel_rfl) (fun _ _ _ h => h) (Or.inl ⟨by kernel_rfl, fun W h => (by first | kernel_rfl | go_simp)⟩) hS ?_
    try simp only [Act.put, List.setIfInBounds_toArray, List.set_cons_zero, List.set_cons_succ]
    refine wpAnyH_take (i := 3) (oi := { dst := some 19, op := Op.fieldAddr 37 (Operand.tmp 3) 1, type := 0, pos := "base.go:507", after := #[], guard := none }) (v := .pointer (some ⟨gx, 1, none⟩)) rfl (by kernel_rfl) (by kernel_rfl) (by kernel_rfl) (fun _ _ _ h => h) (Or.inl ⟨by kernel_rfl, fun W h => (by first | kernel_rfl | go_simp)⟩) hS ?_
    try simp only [Act.put, List.setIfInBounds_toArray, List.set_cons_zero, List.set_cons_succ]
    refine wpAnyH_take (i := 4) (oi := { dst := some 20, op := Op.load 3 (Operand.tmp 19), type := 3, pos := "base.go:507", after := #[{ on := 3, ground := Ground.data }], guard := none }) (v := .int .i64 (d : Int)) rfl (by kernel_rfl) (by kernel_rfl) (by kernel_rfl) (fun _ _ _ h => h) (Or.inl ⟨by kernel_rfl, fun W h => Op1.ld_int (.tmp 19) (by kernel_rfl) (by kernel_rfl) W (h.2.1)⟩) hS ?_
    try simp only [Act.put, List.setIfInBounds_toArray, List.set_cons_zero, List.set_cons_succ]
    refine wpAnyH_take (i := 5) (oi := { dst := some 21, op := Op.fieldAddr 37 (Operand.tmp 3) 4, type := 0, pos := "base.go:507", after := #[], guard := none }) (v := .pointer (some ⟨gx, 4, none⟩)) rfl (by kernel_rfl) (by kernel_rfl) (by kernel_rfl) (fun _ _ _ h => h) (Or.inl ⟨by kernel_rfl, fun W h => (by first | kernel_rfl | go_simp)⟩) hS ?_
    try simp only [Act.put, List.setIfInBounds_toArray, List.set_cons_zero, List.set_cons_succ]
    refine wpAnyH_take (i := 6) (oi := { dst := some 22, op := Op.load 9 (Operand.tmp 21), type := 9, pos := "base.go:507", after := #[{ on := 5, ground := Ground.data }], guard := none }) (v := .string name) rfl (by kernel_rfl) (by kernel_rfl) (by kernel_rfl) (fun _ _ _ h => h) (Or.inl ⟨by kernel_rfl, fun W h => Op1.ld_str (.tmp 21) (by kernel_rfl) (by kernel_rfl) W (h.2.2)⟩) hS ?_
    try simp only [Act.put, List.setIfInBounds_toArray, List.set_cons_zero, List.set_cons_succ]
    refine wpAnyH_ready (rs := [7]) (by kernel_rfl) (by simp) ?_
    refine AllReadyH.cons (o := { dst := some 23, op := Op.call { callee := Callee.value (Operand.func 46), args := #[Operand.tmp 18, Operand.tmp 20, Operand.tmp 22], argTypes := #[50, 3, 9] }, type := 3, pos := "base.go:507", after := #[{ on := 2, ground := Ground.data }, { on := 4, ground := Ground.data }, { on := 6, ground := Ground.data }], guard := none }) rfl (fun K hK => ?_) AllReadyH.nil
    rw [if_pos (by kernel_rfl)]
    go_simp
    refine (rSlotOf_in g blankI d hd3 name hne _ ((unhide M2).has blank_is)).mono ?_
    rintro e w2 ⟨rfl, e9⟩
    rw [e9]
    clear e9 w2
    rw [Sft.blank_find hd3 hne]
    go_wp2_with fail
    refine hK.out _ _ (hS) (fun hS2 => ?_)
    clear hK K
    try simp only [Act.put, List.setIfInBounds_toArray, List.set_cons_zero, List.set_cons_succ]
    refine wpAnyH_take (i := 8) (oi := { dst := some 6, op := Op.assign (Operand.tmp 23), type := 3, pos := "base.go:507", after := #[{ on := 7, ground := Ground.data }, { on := 7, ground := Ground.chain }, { on := 0, ground := Ground.phase }, { on := 1, ground := Ground.phase }, { on := 2, ground := Ground.phase }, { on := 3, ground := Ground.phase }, { on := 4, ground := Ground.phase }, { on := 5, ground := Ground.phase }, { on := 6, ground := Ground.phase }, { on := 7, ground := Ground.phase }], guard := none }) (v := .int .i64 (-1)) rfl (by kernel_rfl) (by kernel_rfl) (by kernel_rfl) (fun _ _ _ h => h) (Or.inl ⟨by kernel_rfl, fun W h => (by first | kernel_rfl | go_simp)⟩) hS2 ?_
    try simp only [Act.put, List.setIfInBounds_toArray, List.set_cons_zero, List.set_cons_succ]
    refine wpAnyH_done (by kernel_rfl) ?_ _
    have q0 : w1.drew.cell? ⟨gx, 0, none⟩ = some (.int .i64 kind) := unhide HC _ (unhide HD) 0 _ rfl
    have q1 := hS.2.1
    have q4 := hS.2.2
    by_cases hk : (kind == 1) = true
    · have RV : w1.drew.heap[gx]? = some (.cells (stpA ⟨kind, (d : Int), toDir, p, name, tu, text⟩) 37) := by
        rw [(unhide HD).block gx (Array.getElem?_eq_some_iff.1 (unhide RX)).1]; exact unhide RX
      have RVH := hide RV
      have hgl : gx < w1.drew.heap.size := (Array.getElem?_eq_some_iff.1 RV).1
      have GL := hide hgl
      have N2 := hide (Bm.start (unhide M2).row)
      have CM := hide (unhide M2).chg
      clear RV hgl HC HD HB M1 M0 BEL RX hS hS2
      generalize w1.drew = V at *
      have CI := hide (bIno_any g blankI blankI V ((unhide N2).has blank_is) ((unhide N2).hasD blank_is blank_is))
      rw [cb_ino] at CI
      have CR := hide (Sft.rRoom_any g blankI blankI d hd3 name hne V ((unhide N2).has blank_is) ((unhide N2).hasD blank_is blank_is))
      rw [Sft.blank_place hd3 hne] at CR
      go_wp2_with fail
      refine (unhide CI).mono ?_
      rintro e wq ⟨rfl, e9⟩
      rw [e9]
      clear e9 wq
      go_wp2_with fail
      refine (unhide CR).mono ?_
      rintro e w3 ⟨rfl, b3⟩
      have N3 := hide ((unhide N2).call b3)
      have c8 : w3.cell? ⟨g, 188, none⟩ = some (.int .i64 0) := by rw [cell_of_row _ _ 188 _ _ _ (unhide N3).row]; exact Sft.cell188
      have f8 := (unhide N3).frozen 188
      have l8 := (unhide N3).lt
      have N4 := hide ((unhide N3).set 188 (.int .i64 1))
      rw [Sft.row1] at N4
      clear b3 q0 q1 q4
      go_wp2_with fail
      generalize w3.setCell ⟨g, 188, none⟩ (.int .i64 1) = W4 at N4 ⊢
      have N4d := hide ((unhide N4).call (Below.refl _ _).drew)
      clear c8 f8 l8 N3
      refine wp_region_F (S := fun _ => True) 7 (by kernel_rfl) (trivial) (fun hS => ?_)
      refine wpAnyF_take (i := 0) (oi := { dst := some 49, op := Op.move (Operand.tmp 0), type := 44, pos := "base.go:517", after := #[], guard := none }) (v := .pointer (some ⟨g, 0, none⟩)) rfl (by kernel_rfl) (by kernel_rfl) (by kernel_rfl) (by kernel_rfl) (fun _ _ _ h => h) (Or.inl ⟨by kernel_rfl, fun W h => (by first | kernel_rfl | go_simp)⟩) hS ?_
      try simp only [Act.put, List.setIfInBounds_toArray, List.set_cons_zero, List.set_cons_succ]
      refine wpAnyF_take (i := 1) (oi := { dst := some 50, op := Op.move (Operand.tmp 7), type := 3, pos := "base.go:517", after := #[], guard := none }) (v := .int .i64 0) rfl (by kernel_rfl) (by kernel_rfl) (by kernel_rfl) (by kernel_rfl) (fun _ _ _ h => h) (Or.inl ⟨by kernel_rfl, fun W h => (by first | kernel_rfl | go_simp)⟩) hS ?_
      try simp only [Act.put, List.setIfInBounds_toArray, List.set_cons_zero, List.set_cons_succ]
      refine wpAnyF_free (i := 3) (oi := { dst := some 52, op := Op.nilCheck (Operand.tmp 49), type := 0, pos := "base.go:517", after := #[{ on := 0, ground := Ground.data }], guard := none }) (v := .pointer (some ⟨g, 0, none⟩)) rfl (by kernel_rfl) (by kernel_rfl) (by kernel_rfl) (by kernel_rfl) (fun _ _ _ h => h) (Or.inl ⟨by kernel_rfl, fun W _ => (by first | kernel_rfl | go_simp)⟩) hS ?_
      try simp only [Act.put, List.setIfInBounds_toArray, List.set_cons_zero, List.set_cons_succ]
      refine wpAnyF_free (i := 4) (oi := { dst := some 53, op := Op.fieldAddr 48 (Operand.tmp 52) 0, type := 0, pos := "base.go:517", after := #[{ on := 3, ground := Ground.data }], guard := none }) (v := .pointer (some ⟨g, 0, none⟩)) rfl (by kernel_rfl) (by kernel_rfl) (by kernel_rfl) (by kernel_rfl) (fun _ _ _ h => h) (Or.inl ⟨by kernel_rfl, fun W _ => (by first | kernel_rfl | go_simp)⟩) hS ?_
      try simp only [Act.put, List.setIfInBounds_toArray, List.set_cons_zero, List.set_cons_succ]
      refine wpAnyF_free (i := 5) (oi := { dst := some 54, op := Op.fieldAddr 34 (Operand.tmp 53) 0, type := 0, pos := "base.go:517", after := #[{ on := 4, ground := Ground.data }], guard := none }) (v := .pointer (some ⟨g, 0, none⟩)) rfl (by kernel_rfl) (by kernel_rfl) (by kernel_rfl) (by kernel_rfl) (fun _ _ _ h => h) (Or.inl ⟨by kernel_rfl, fun W _ => (by first | kernel_rfl | go_simp)⟩) hS ?_
      try simp only [Act.put, List.setIfInBounds_toArray, List.set_cons_zero, List.set_cons_succ]
      refine wpAnyF_one (i := 2) (o := { dst := some 51, op := Op.call { callee := Callee.value (Operand.func 47), args := #[], argTypes := #[] }, type := 24, pos := "base.go:517", after := #[], guard := none }) (by kernel_rfl) rfl (by kernel_rfl) (fun K hK => ?_)
      go_simp
      refine (none_any _).mono ?_
      rintro e w5 ⟨rfl, b5⟩
      have N5 := hide ((unhide N4d).call b5)
      clear b5
      go_wp2_with fail
      have hS5 := trivial
      refine hK.out _ _ (fun _ => hS5) ?_
      clear hK K
      try simp only [Act.put, List.setIfInBounds_toArray, List.set_cons_zero, List.set_cons_succ]
      refine wpAnyF_take (i := 6) (oi := { dst := some 55, op := Op.indexAddr 25 (Operand.tmp 54) (Operand.tmp 50), type := 0, pos := "base.go:517", after := #[{ on := 5, ground := Ground.data }, { on := 1, ground := Ground.data }, { on := 0, ground := Ground.phase }, { on := 1, ground := Ground.phase }, { on := 2, ground := Ground.phase }], guard := none }) (v := .pointer (some ⟨g, 0, none⟩)) rfl (by kernel_rfl) (by kernel_rfl) (by kernel_rfl) (by kernel_rfl) (fun _ _ _ h => h) (Or.inl ⟨by kernel_rfl, fun W h => (by first | kernel_rfl | go_simp)⟩) hS5 ?_
      try simp only [Act.put, List.setIfInBounds_toArray, List.set_cons_zero, List.set_cons_succ]
      refine wpAnyF_last (o := { dst := none, op := Op.store 24 (Operand.tmp 55) (Operand.tmp 51), type := 0, pos := "base.go:517", after := #[{ on := 6, ground := Ground.data }, { on := 2, ground := Ground.data }, { on := 2, ground := Ground.chain }, { on := 0, ground := Ground.phase }, { on := 1, ground := Ground.phase }, { on := 2, ground := Ground.phase }], guard := none }) (by kernel_rfl) rfl (by kernel_rfl) (by kernel_rfl) (fun K hK => ?_)
      refine Op1.st_part (cells := #[.bool false, .int .i64 0, .int .i64 0, .int .i64 (-1), .int .i64 (-1)]) (o0 := 0) 24 (.tmp 55) (.tmp 51) (by kernel_rfl) rfl (by kernel_rfl) (by kernel_rfl) (unhide N5).row sz_ino (by have := size_blank; rw [Array.size_append]; simp only [List.size_toArray, List.length_cons, List.length_nil]; omega) (by simp [Value.oneCell']) ?_
      refine hK.out _ _ ?_
      clear hK K
      try simp only [Act.put, List.setIfInBounds_toArray, List.set_cons_zero, List.set_cons_succ]
      refine wpAnyF_done (by kernel_rfl) ?_ _
      have N6 := hide ((unhide N5).row' (splice (blankCells ++ (blankCells ++ Sft.tail1)) 0 #[.bool false, .int .i64 0, .int .i64 0, .int .i64 (-1), .int .i64 (-1)]))
      generalize w5.setRow g (splice (blankCells ++ (blankCells ++ Sft.tail1)) 0 #[.bool false, .int .i64 0, .int .i64 0, .int .i64 (-1), .int .i64 (-1)]) = W6 at N6 ⊢
      have e6 : splice (blankCells ++ (blankCells ++ Sft.tail1)) 0 #[.bool false, .int .i64 0, .int .i64 0, .int .i64 (-1), .int .i64 (-1)] = put5v blankCells 0 Ino.none ++ (blankCells ++ Sft.tail1) := splice5 (n := 0) size_blank (by omega) Ino.none
      rw [e6] at N6
      have z6 : (put5v blankCells 0 Ino.none).size = 94 := by unfold put5v; simp [size_blank]
      have c6 : W6.cell? ⟨g, 0, none⟩ = some (.bool false) := by rw [cell_of_row _ _ 0 _ _ _ (unhide N6).row]; kernel_rfl
      have f6 := (unhide N6).frozen 0
      have l6 := (unhide N6).lt
      have N7 := hide ((unhide N6).set 0 (.bool true))
      rw [app_set z6 (by omega)] at N7
      clear e6 N5 N4 N4d
      go_wp2_with fail
      generalize W6.setCell ⟨g, 0, none⟩ (.bool true) = W7 at N7 ⊢
      have N7d := hide ((unhide N7).call (Below.refl _ _).drew)
      clear c6 f6 l6 N6
      refine wp_region_F (S := fun W' => W'.cell? ⟨g, 188, none⟩ = some (.int .i64 1)) 11 (by kernel_rfl) (by rw [cell_of_row _ _ 188 _ _ _ (unhide N7d).row]; kernel_rfl) (fun hS => ?_)
      refine wpAnyF_take (i := 0) (oi := { dst := some 63, op := Op.move (Operand.tmp 0), type := 44, pos := "base.go:519", after := #[], guard := none }) (v := .pointer (some ⟨g, 0, none⟩)) rfl (by kernel_rfl) (by kernel_rfl) (by kernel_rfl) (by kernel_rfl) (fun _ _ _ h => h) (Or.inl ⟨by kernel_rfl, fun W h => (by first | kernel_rfl | go_simp)⟩) hS ?_
      try simp only [Act.put, List.setIfInBounds_toArray, List.set_cons_zero, List.set_cons_succ]
      refine wpAnyF_take (i := 1) (oi := { dst := some 64, op := Op.move (Operand.tmp 7), type := 3, pos := "base.go:519", after := #[], guard := none }) (v := .int .i64 0) rfl (by kernel_rfl) (by kernel_rfl) (by kernel_rfl) (by kernel_rfl) (fun _ _ _ h => h) (Or.inl ⟨by kernel_rfl, fun W h => (by first | kernel_rfl | go_simp)⟩) hS ?_
      try simp only [Act.put, List.setIfInBounds_toArray, List.set_cons_zero, List.set_cons_succ]
      refine wpAnyF_take (i := 2) (oi := { dst := some 65, op := Op.move (Operand.tmp 0), type := 44, pos := "base.go:519", after := #[], guard := none }) (v := .pointer (some ⟨g, 0, none⟩)) rfl (by kernel_rfl) (by kernel_rfl) (by kernel_rfl) (by kernel_rfl) (fun _ _ _ h => h) (Or.inl ⟨by kernel_rfl, fun W h => (by first | kernel_rfl | go_simp)⟩) hS ?_
      try simp only [Act.put, List.setIfInBounds_toArray, List.set_cons_zero, List.set_cons_succ]
      refine wpAnyF_take (i := 3) (oi := { dst := some 66, op := Op.nilCheck (Operand.tmp 65), type := 0, pos := "base.go:519", after := #[{ on := 2, ground := Ground.data }], guard := none }) (v := .pointer (some ⟨g, 0, none⟩)) rfl (by kernel_rfl) (by kernel_rfl) (by kernel_rfl) (by kernel_rfl) (fun _ _ _ h => h) (Or.inl ⟨by kernel_rfl, fun W h => (by first | kernel_rfl | go_simp)⟩) hS ?_
      try simp only [Act.put, List.setIfInBounds_toArray, List.set_cons_zero, List.set_cons_succ]
      refine wpAnyF_take (i := 4) (oi := { dst := some 67, op := Op.fieldAddr 48 (Operand.tmp 66) 2, type := 0, pos := "base.go:519", after := #[{ on := 3, ground := Ground.data }], guard := none }) (v := .pointer (some ⟨g, 188, none⟩)) rfl (by kernel_rfl) (by kernel_rfl) (by kernel_rfl) (by kernel_rfl) (fun _ _ _ h => h) (Or.inl ⟨by kernel_rfl, fun W h => (by first | kernel_rfl | go_simp)⟩) hS ?_
      try simp only [Act.put, List.setIfInBounds_toArray, List.set_cons_zero, List.set_cons_succ]
      refine wpAnyF_take (i := 5) (oi := { dst := some 68, op := Op.load 3 (Operand.tmp 67), type := 3, pos := "base.go:519", after := #[{ on := 4, ground := Ground.data }], guard := none }) (v := .int .i64 1) rfl (by kernel_rfl) (by kernel_rfl) (by kernel_rfl) (by kernel_rfl) (fun _ _ _ h => h) (Or.inl ⟨by kernel_rfl, fun W h => Op1.ld_int (.tmp 67) (by kernel_rfl) (by kernel_rfl) W (h)⟩) hS ?_
      try simp only [Act.put, List.setIfInBounds_toArray, List.set_cons_zero, List.set_cons_succ]
      refine wpAnyF_free (i := 6) (oi := { dst := some 69, op := Op.nilCheck (Operand.tmp 63), type := 0, pos := "base.go:519", after := #[{ on := 0, ground := Ground.data }], guard := none }) (v := .pointer (some ⟨g, 0, none⟩)) rfl (by kernel_rfl) (by kernel_rfl) (by kernel_rfl) (by kernel_rfl) (fun _ _ _ h => h) (Or.inl ⟨by kernel_rfl, fun W _ => (by first | kernel_rfl | go_simp)⟩) hS ?_
      try simp only [Act.put, List.setIfInBounds_toArray, List.set_cons_zero, List.set_cons_succ]
      refine wpAnyF_free (i := 7) (oi := { dst := some 70, op := Op.fieldAddr 48 (Operand.tmp 69) 0, type := 0, pos := "base.go:519", after := #[{ on := 6, ground := Ground.data }], guard := none }) (v := .pointer (some ⟨g, 0, none⟩)) rfl (by kernel_rfl) (by kernel_rfl) (by kernel_rfl) (by kernel_rfl) (fun _ _ _ h => h) (Or.inl ⟨by kernel_rfl, fun W _ => (by first | kernel_rfl | go_simp)⟩) hS ?_
      try simp only [Act.put, List.setIfInBounds_toArray, List.set_cons_zero, List.set_cons_succ]
      refine wpAnyF_free (i := 8) (oi := { dst := some 71, op := Op.fieldAddr 34 (Operand.tmp 70) 0, type := 0, pos := "base.go:519", after := #[{ on := 7, ground := Ground.data }], guard := none }) (v := .pointer (some ⟨g, 0, none⟩)) rfl (by kernel_rfl) (by kernel_rfl) (by kernel_rfl) (by kernel_rfl) (fun _ _ _ h => h) (Or.inl ⟨by kernel_rfl, fun W _ => (by first | kernel_rfl | go_simp)⟩) hS ?_
      try simp only [Act.put, List.setIfInBounds_toArray, List.set_cons_zero, List.set_cons_succ]
      refine wpAnyF_free (i := 9) (oi := { dst := some 72, op := Op.indexAddr 25 (Operand.tmp 71) (Operand.tmp 64), type := 0, pos := "base.go:519", after := #[{ on := 8, ground := Ground.data }, { on := 1, ground := Ground.data }, { on := 0, ground := Ground.phase }, { on := 1, ground := Ground.phase }, { on := 2, ground := Ground.phase }, { on := 3, ground := Ground.phase }, { on := 4, ground := Ground.phase }, { on := 5, ground := Ground.phase }], guard := none }) (v := .pointer (some ⟨g, 0, none⟩)) rfl (by kernel_rfl) (by kernel_rfl) (by kernel_rfl) (by kernel_rfl) (fun _ _ _ h => h) (Or.inl ⟨by kernel_rfl, fun W _ => (by first | kernel_rfl | go_simp)⟩) hS ?_
      try simp only [Act.put, List.setIfInBounds_toArray, List.set_cons_zero, List.set_cons_succ]
      refine wpAnyF_take (i := 10) (oi := { dst := some 73, op := Op.fieldAddr 24 (Operand.tmp 72) 1, type := 0, pos := "base.go:519", after := #[{ on := 9, ground := Ground.data }, { on := 0, ground := Ground.phase }, { on := 1, ground := Ground.phase }, { on := 2, ground := Ground.phase }, { on := 3, ground := Ground.phase }, { on := 4, ground := Ground.phase }, { on := 5, ground := Ground.phase }], guard := none }) (v := .pointer (some ⟨g, 1, none⟩)) rfl (by kernel_rfl) (by kernel_rfl) (by kernel_rfl) (by kernel_rfl) (fun _ _ _ h => h) (Or.inl ⟨by kernel_rfl, fun W h => (by first | kernel_rfl | go_simp)⟩) hS ?_
      try simp only [Act.put, List.setIfInBounds_toArray, List.set_cons_zero, List.set_cons_succ]
      refine wpAnyF_last (o := { dst := none, op := Op.store 3 (Operand.tmp 73) (Operand.tmp 68), type := 0, pos := "base.go:519", after := #[{ on := 10, ground := Ground.data }, { on := 5, ground := Ground.data }, { on := 0, ground := Ground.phase }, { on := 1, ground := Ground.phase }, { on := 2, ground := Ground.phase }, { on := 3, ground := Ground.phase }, { on := 4, ground := Ground.phase }, { on := 5, ground := Ground.phase }], guard := none }) (by kernel_rfl) rfl (by kernel_rfl) (by kernel_rfl) (fun K hK => ?_)
      refine Op1.st_int (.tmp 73) (.tmp 68) (by kernel_rfl) rfl (g := g) (o0 := 1) (v := 1) (by kernel_rfl) (by kernel_rfl) (u := .int .i64 0) (by rw [cell_of_row _ _ 1 _ _ _ (unhide N7d).row]; kernel_rfl) ((unhide N7d).frozen _) ?_
      refine hK.out _ _ ?_
      clear hK K
      try simp only [Act.put, List.setIfInBounds_toArray, List.set_cons_zero, List.set_cons_succ]
      refine wpAnyF_done (by kernel_rfl) ?_ _
      have N8 := hide ((unhide N7d).set 1 (.int .i64 1))
      rw [app_set (by simpa using z6) (by omega)] at N8
      have N8' := hide (show Bm V _ g (Sft.made ++ (blankCells ++ Sft.tail1)) from unhide N8)
      generalize World.setCell _ _ _ = W8 at N8' ⊢
      have R8 : W8.heap[gx]? = some (.cells (stpA ⟨kind, (d : Int), toDir, p, name, tu, text⟩) 37) := by
        rw [(unhide N8').chg.block gx (unhide GL) (unhide GN)]; exact unhide RVH
      have q1 : W8.cell? ⟨gx, 1, none⟩ = some (.int .i64 (d : Int)) := by rw [cell_of_row _ _ 1 _ _ _ R8]; rfl
      have q4 : W8.cell? ⟨gx, 4, none⟩ = some (.string name) := by rw [cell_of_row _ _ 4 _ _ _ R8]; rfl
      have A := hide (rAdd_any (unhide N8') Sft.made_is blank_is hd3 (n := 0) (by omega) (s := 0) (by omega) (Sft.made_slot d hd3) name hn (by rw [Sft.made_links]; omega))
      rw [show (((0 : Nat)) : Int) = 0 from rfl] at A
      clear N8 N7 N7d R8
      go_wp2_with fail
      refine (unhide A).mono ?_
      rintro e w9 ⟨rfl, cs9, n9, _⟩
      have CE := hide ((unhide CM).trans n9.chg (fun i hi => .inl hi))
      clear n9
      go_wp2_with fail
      go_ret
      exact ⟨⟨_, rfl⟩, unhide CE⟩
    · have hk' : (kind == 1) = false := by simpa using hk
      clear hk
      go_wp2_with fail
      go_ret
      exact ⟨⟨_, rfl⟩, (unhide M2).chg⟩
  · have u1 : (chk ⟨kind, dir, toDir, p, name, tu, text⟩ != 0) = true := by simpa using hc
    generalize chk ⟨kind, dir, toDir, p, name, tu, text⟩ = cd at C1 u1
    clear hc CH
    simp only [stpA] at C1
    go_enter Tryz.func51, Tryz.ntmps51
    go_wp2_with fail
    refine (unhide C1).mono ?_
    rintro e w1 ⟨rfl, b1⟩
    have B1 := hide ((unhide M0).call b1)
    clear b1
    go_wp2_with fail
    go_ret
    exact ⟨⟨_, rfl⟩, (unhide B1).chg⟩
end
end Go.Proofs.YtmlhalhjfcfagabGreat
namespace Go.Proofs.YtmlhalhjfcfagabGreat
open Go.RowKit
open Idl (Stp chk stpA)
theorem Fo.chgB {w W W' : World} {bf bc gb : Nat} {m k : Img} {last : Int} (h : Fb w bf bc gb m k last W) (hc : Idl.Chg (fun i => i = gb) W W') : Fo w bf bc m k last W' := by
  obtain ⟨cs, ds, f⟩ := h.fo.it
  exact ⟨⟨cs, ds, f.keep (hc.block _ f.flt (Ne.symm h.nf)) (hc.block _ f.clt (Ne.symm h.nc))⟩, h.fo.bel.trans (hc.below h.fo.bel.size (fun i hi => by rw [hi]; exact h.b0)), h.fo.f0, h.fo.c0⟩
section
variable {w W W' : World} {bf bc gb : Nat} {m k : Img} {last : Int}
theorem Sft.step_cells : (Tryz.prog.info? 37).map (·.size) = some 7 := by kernel_rfl
theorem Sft.step_struct : Tryz.prog.underlying 37 = some (.struct (Tryz.prog.fieldsOf 37)) := by kernel_rfl
set_option maxHeartbeats 4000000 in
set_option maxRecDepth 100000 in
theorem softStep_file (h : Fb w bf bc gb m k last W) (hb : W.heap[gb]? = some (.cells (blankCells ++ (blankCells ++ Sft.bedTail)) 48)) (hG : Img.Good m last) (hla : last < 4611686018427387904) (x : Stp) (hn : x.name.size ≤ maxLen) (ht : x.to.size ≤ maxLen) (hx : x.text.size ≤ maxLen) (hk : x.kind ≠ 7 ∧ x.kind ≠ 8 ∧ x.kind ≠ 9) :
    Calls Tryz.prog 17 #[.pointer (some ⟨bf, 0, none⟩), .pointer (some ⟨gb, 0, none⟩), .agg (stpA x)] W fun e w' => (∃ v, e = .returned (.bool v)) ∧ Fo w bf bc (Img.sstep m k last x) k (Img.slast m k last x) w' := by
  have BL := hide (show Below W.heap.size W (W.alloc (.cells (stpA x) 37)) from (Below.refl _ W).alloc (Nat.le_refl _) _)
  have H0 := hide (h.call (unhide BL))
  have GB := hide (show W.heap.size ≠ bf ∧ W.heap.size ≠ bc ∧ W.heap.size ≠ gb from ⟨by have := h.fo.cells.2.1; omega, by have := h.fo.cells.2.2.1; omega, by have := h.bed.lt; omega⟩)
  have RX := hide (heap_alloc_last W (.cells (stpA x) 37))
  have HB := hide (show (W.alloc (.cells (stpA x) 37)).heap[gb]? = some (.cells (blankCells ++ (blankCells ++ Sft.bedTail)) 48) by rw [(unhide BL).block _ h.bed.lt]; exact hb)
  have DO := hide fun W' (f : Fo w bf bc m k last W') => f.step hG hla x hn ht hx
  have FI := hide fun (W' : World) (q : W'.heap[gb]? = some (.cells (blankCells ++ (blankCells ++ Sft.bedTail)) 48)) => files0_blank q x hn ht hx
  obtain ⟨kind, dir, toDir, p, name, tu, text⟩ := x
  dsimp only at hk
  have k7 : (kind == 7) = false := by simpa using hk.1
  have k8 : (kind == 8) = false := by simpa using hk.2.1
  have k9 : (kind == 9) = false := by simpa using hk.2.2
  generalize Img.sstep m k last ⟨kind, dir, toDir, p, name, tu, text⟩ = m1 at DO ⊢
  generalize Img.slast m k last ⟨kind, dir, toDir, p, name, tu, text⟩ = la1 at DO ⊢
  generalize Img.scode m k ⟨kind, dir, toDir, p, name, tu, text⟩ = cd at DO
  simp only [stpA] at DO FI H0 BL RX HB ⊢
  clear h hb hk hG hla hn ht hx
  go_enter Tryz.func17, Tryz.ntmps17
  go_wp2_with fail
  generalize W.heap.size = g0 at *
  generalize W.alloc (.cells #[.int .i64 kind, .int .i64 dir, .int .i64 toDir, .int .i64 p, .string name, .string tu, .string text] 37) = W1 at *
  have BD := hide ((Below.refl W1.heap.size W1).drew)
  have H1 := hide ((unhide H0).call (unhide BD))
  have R1 : W1.drew.heap[g0]? = some (.cells #[.int .i64 kind, .int .i64 dir, .int .i64 toDir, .int .i64 p, .string name, .string tu, .string text] 37) := unhide RX
  have HB1 : W1.drew.heap[gb]? = some (.cells (blankCells ++ (blankCells ++ Sft.bedTail)) 48) := unhide HB
  clear H0 RX HB
  refine wp_region_held_drew (S := fun W' => W'.heap[g0]? = some (.cells #[.int .i64 kind, .int .i64 dir, .int .i64 toDir, .int .i64 p, .string name, .string tu, .string text] 37)) (by kernel_rfl) (R1) (fun hS => ?_)
  refine wpAnyH_take (i := 0) (oi := { dst := some 35, op := Op.move (Operand.tmp 0), type := 42, pos := "law05.go:34", after := #[], guard := none }) (v := .pointer (some ⟨bf, 0, none⟩)) rfl (by kernel_rfl) (by kernel_rfl) (by kernel_rfl) (fun _ _ _ h => h) (Or.inl ⟨by kernel_rfl, fun W h => (by first | kernel_rfl | go_simp)⟩) hS ?_
  try simp only [Act.put, List.setIfInBounds_toArray, List.set_cons_zero, List.set_cons_succ]
  refine wpAnyH_take (i := 1) (oi := { dst := some 36, op := Op.load 37 (Operand.tmp 5), type := 37, pos := "law05.go:34", after := #[], guard := none }) (v := .agg #[.int .i64 kind, .int .i64 dir, .int .i64 toDir, .int .i64 p, .string name, .string tu, .string text]) rfl (by kernel_rfl) (by kernel_rfl) (by kernel_rfl) (fun _ _ _ h => h) (Or.inl ⟨by kernel_rfl, fun W h => run_exec_load_part 37 (.tmp 5) (by kernel_rfl) g0 0 7 (by kernel_rfl) W 37 #[.int .i64 kind, .int .i64 dir, .int .i64 toDir, .int .i64 p, .string name, .string tu, .string text] #[.int .i64 kind, .int .i64 dir, .int .i64 toDir, .int .i64 p, .string name, .string tu, .string text] _ h Sft.step_struct rfl Sft.step_cells (by simp) (by rfl)⟩) hS ?_
  try simp only [Act.put, List.setIfInBounds_toArray, List.set_cons_zero, List.set_cons_succ]
  refine wpAnyH_take (i := 3) (oi := { dst := some 38, op := Op.move (Operand.tmp 1), type := 44, pos := "law05.go:34", after := #[], guard := none }) (v := .pointer (some ⟨gb, 0, none⟩)) rfl (by kernel_rfl) (by kernel_rfl) (by kernel_rfl) (fun _ _ _ h => h) (Or.inl ⟨by kernel_rfl, fun W h => (by first | kernel_rfl | go_simp)⟩) hS ?_
  try simp only [Act.put, List.setIfInBounds_toArray, List.set_cons_zero, List.set_cons_succ]
  refine wpAnyH_take (i := 4) (oi := { dst := some 39, op := Op.load 37 (Operand.tmp 5), type := 37, pos := "law05.go:34", after := #[], guard := none }) (v := .agg #[.int .i64 kind, .int .i64 dir, .int .i64 toDir, .int .i64 p, .string name, .string tu, .string text]) rfl (by kernel_rfl) (by kernel_rfl) (by kernel_rfl) (fun _ _ _ h => h) (Or.inl ⟨by kernel_rfl, fun W h => run_exec_load_part 37 (.tmp 5) (by kernel_rfl) g0 0 7 (by kernel_rfl) W 37 #[.int .i64 kind, .int .i64 dir, .int .i64 toDir, .int .i64 p, .string name, .string tu, .string text] #[.int .i64 kind, .int .i64 dir, .int .i64 toDir, .int .i64 p, .string name, .string tu, .string text] _ h Sft.step_struct rfl Sft.step_cells (by simp) (by rfl)⟩) hS ?_
  try simp only [Act.put, List.setIfInBounds_toArray, List.set_cons_zero, List.set_cons_succ]
  refine wpAnyH_ready (rs := [2]) (by kernel_rfl) (by simp) ?_
  refine AllReadyH.cons (o := { dst := some 37, op := Op.call { callee := Callee.value (Operand.func 30), args := #[Operand.tmp 35, Operand.tmp 36], argTypes := #[42, 37] }, type := 3, pos := "law05.go:34", after := #[{ on := 0, ground := Ground.data }, { on := 1, ground := Ground.data }], guard := none }) rfl (fun K hK => ?_) AllReadyH.nil
  rw [if_pos (by kernel_rfl)]
  go_simp
  refine (unhide DO _ (unhide H1).fo).mono ?_
  rintro e w2 ⟨rfl, f2, c2⟩
  obtain ⟨h2, o2, s2⟩ := (unhide H1).chg f2 c2
  have H2 := hide h2
  have R2 : w2.heap[g0]? = some (.cells #[.int .i64 kind, .int .i64 dir, .int .i64 toDir, .int .i64 p, .string name, .string tu, .string text] 37) := by rw [o2 g0 (Array.getElem?_eq_some_iff.1 R1).1 (unhide GB).1 (unhide GB).2.1 (unhide GB).2.2]; exact R1
  have HB2 : w2.heap[gb]? = some (.cells (blankCells ++ (blankCells ++ Sft.bedTail)) 48) := by rw [c2.block gb (unhide H1).bed.lt (fun z => z.elim (unhide H1).nf (unhide H1).nc)]; exact HB1
  clear h2 o2 s2 f2 c2
  go_wp2_with fail
  refine hK.out _ _ (R2) (fun hS2 => ?_)
  clear hK K
  try simp only [Act.put, List.setIfInBounds_toArray, List.set_cons_zero, List.set_cons_succ]
  refine wpAnyH_ready (rs := [5]) (by kernel_rfl) (by simp) ?_
  refine AllReadyH.cons (o := { dst := some 40, op := Op.call { callee := Callee.value (Operand.func 51), args := #[Operand.tmp 38, Operand.tmp 39], argTypes := #[44, 37] }, type := 3, pos := "law05.go:34", after := #[{ on := 3, ground := Ground.data }, { on := 4, ground := Ground.data }, { on := 2, ground := Ground.chain }], guard := none }) rfl (fun K hK => ?_) AllReadyH.nil
  rw [if_pos (by kernel_rfl)]
  go_simp
  refine (unhide FI _ HB2).mono ?_
  rintro e w3 ⟨⟨c3, rfl⟩, q3⟩
  have R3 : w3.heap[g0]? = some (.cells #[.int .i64 kind, .int .i64 dir, .int .i64 toDir, .int .i64 p, .string name, .string tu, .string text] 37) := by rw [q3.block g0 (Array.getElem?_eq_some_iff.1 R2).1 (unhide GB).2.2]; exact R2
  have F3 := hide (Fo.chgB (unhide H2) q3)
  clear q3
  go_wp2_with fail
  refine hK.out _ _ (R3) (fun hS3 => ?_)
  clear hK K
  try simp only [Act.put, List.setIfInBounds_toArray, List.set_cons_zero, List.set_cons_succ]
  refine wpAnyH_take (i := 6) (oi := { dst := some 41, op := Op.binOp BinOp.eql 3 (Operand.tmp 37) (Operand.tmp 40) 3, type := 4, pos := "law05.go:34", after := #[{ on := 2, ground := Ground.data }, { on := 5, ground := Ground.data }], guard := none }) (v := .bool (cd == c3)) rfl (by kernel_rfl) (by kernel_rfl) (by kernel_rfl) (fun _ _ _ h => h) (Or.inl ⟨by kernel_rfl, fun W h => (by first | kernel_rfl | go_simp)⟩) hS3 ?_
  try simp only [Act.put, List.setIfInBounds_toArray, List.set_cons_zero, List.set_cons_succ]
  refine wpAnyH_take (i := 7) (oi := { dst := some 6, op := Op.assign (Operand.tmp 41), type := 4, pos := "law05.go:34", after := #[{ on := 6, ground := Ground.data }, { on := 5, ground := Ground.chain }, { on := 0, ground := Ground.phase }, { on := 1, ground := Ground.phase }, { on := 2, ground := Ground.phase }, { on := 3, ground := Ground.phase }, { on := 4, ground := Ground.phase }, { on := 5, ground := Ground.phase }, { on := 6, ground := Ground.phase }], guard := none }) (v := .bool (cd == c3)) rfl (by kernel_rfl) (by kernel_rfl) (by kernel_rfl) (fun _ _ _ h => h) (Or.inl ⟨by kernel_rfl, fun W h => (by first | kernel_rfl | go_simp)⟩) hS3 ?_
  try simp only [Act.put, List.setIfInBounds_toArray, List.set_cons_zero, List.set_cons_succ]
  refine wpAnyH_done (by kernel_rfl) ?_ _
  go_wp2_with fail
  go_ret
  exact ⟨⟨_, rfl⟩, unhide F3⟩
end
end Go.Proofs.YtmlhalhjfcfagabGreat
