/-
  The walk of the reference's (*Bed).room.
-/
import Derived.Test.YtmbpckmpnnmnmacGreatZz
import Derived.Test.YtmbpckmpnnmnmacGreatXbf
import Derived.Test.YtmbpckmpnnmnmacGreatXbc
import Derived.Test.YtmbpckmpnnmnmacGreatXva
namespace Go.Proofs.YtmbpckmpnnmnmacGreat
open Go.RowKit
namespace Sft
theorem findAt_in {m : Img} {d : Nat} (hd : d < 3) {s : ByteArray} (hs : s.toList.isEmpty = false) : m.findAt (d : Int) s.toList = m.find d s.toList := by
  unfold Img.findAt
  rw [if_pos ⟨by omega, by omega, hs⟩, Int.toNat_natCast]
set_option maxHeartbeats 1000000 in
set_option maxRecDepth 100000 in
theorem rRoom_any (g : Nat) (m k : Img) (d : Nat) (hd : d < 3) (s : ByteArray) (hs : s.toList.isEmpty = false) (w : World) (hm : HasAt w g 0 m) (hk : HasAt w g 94 k) :
    Calls Tryz.prog 75 #[.pointer (some ⟨g, 0, none⟩), .int .i64 d, .string s] w fun e w' => e = .returned (.bool (!Img.noPlace m k d s)) ∧ Below w.heap.size w w' := by
  have C1 := hide (bSlot_any g m k (d : Int) w hm hk)
  have HK := hide fun W (b : Below w.heap.size w W) => rSlotOf_in g k d hd s hs W (hk.below b hk.lt)
  have E : Img.noPlace m k d s = (decide (Img.freeSlot m k d < 0) || decide (0 ≤ k.find d s.toList)) := by unfold Img.noPlace; rw [findAt_in hd hs]
  rw [E]
  generalize k.find d s.toList = v2 at HK ⊢
  generalize Img.freeSlot m k d = v1 at C1 ⊢
  clear E hm hk
  by_cases h1 : 0 ≤ v1
  · have u1 : decide (v1 ≥ 0) = true := by simpa using h1
    have r1 : decide (v1 < 0) = false := by simp; omega
    have r2 : (!decide (0 ≤ v2)) = decide (v2 < 0) := by
      by_cases e : v2 < 0
      · rw [show decide (v2 < 0) = true by simpa using e, show decide (0 ≤ v2) = false by simp; omega]; rfl
      · rw [show decide (v2 < 0) = false by simpa using e, show decide (0 ≤ v2) = true by simp; omega]; rfl
    rw [r1, Bool.false_or, r2]
    clear r1 r2 h1
    go_enter Tryz.func75, Tryz.ntmps75
    go_wp2_with fail
    refine (unhide C1).mono ?_
    rintro e w1 ⟨rfl, b1⟩
    have B1 := hide (show Below w.heap.size w w1 by obtain ⟨q, hq⟩ := b1; rw [hq]; exact belowN (Below.refl _ _))
    clear b1
    go_wp2_with fail
    refine (unhide HK w1 (unhide B1)).mono ?_
    rintro e wq ⟨rfl, e9⟩
    rw [e9]
    clear e9 wq
    go_wp2_with fail
    go_ret
    exact ⟨by rfl, unhide B1⟩
  · have u1 : decide (v1 ≥ 0) = false := by simpa using h1
    have r1 : decide (v1 < 0) = true := by simp; omega
    rw [r1, Bool.true_or]
    clear r1 h1
    go_enter Tryz.func75, Tryz.ntmps75
    go_wp2_with fail
    refine (unhide C1).mono ?_
    rintro e w1 ⟨rfl, b1⟩
    have B1 := hide (show Below w.heap.size w w1 by obtain ⟨q, hq⟩ := b1; rw [hq]; exact belowN (Below.refl _ _))
    clear b1
    go_wp2_with fail
    go_ret
    exact ⟨by rfl, unhide B1⟩
end Sft
end Go.Proofs.YtmbpckmpnnmnmacGreat
namespace Go.Proofs.YtmbpckmpnnmnmacGreat
open Go.RowKit
open Idl (Stp chk stpA)
/-- a bed that is being changed -/
structure Bm (w0 w : World) (g : Nat) (rows : Array Value) : Prop where
  row : w.heap[g]? = some (.cells rows 55)
  chg : Idl.Chg (fun i => i = g) w0 w
def Bd (w0 w : World) (g : Nat) (ds tl : Array Value) (m : Img) : Prop := ∃ cs, Bm w0 w g (cs ++ (ds ++ tl)) ∧ IsImg cs m
section
variable {w0 w w' : World} {g : Nat} {cs ds tl rows : Array Value} {m k : Img}
theorem Bm.start (h : w.heap[g]? = some (.cells rows 55)) : Bm w w g rows := ⟨h, ⟨rfl, rfl, rfl, Nat.le_refl _, fun _ _ _ => rfl⟩⟩
theorem Bm.lt (h : Bm w0 w g rows) : g < w.heap.size := (Array.getElem?_eq_some_iff.1 h.row).1
theorem Bm.frozen (h : Bm w0 w g rows) (j : Nat) : w.frozen? ⟨g, j, none⟩ = false := frozen_of_row w g j _ _ h.row
theorem Bm.call (h : Bm w0 w g rows) (hb : Below w.heap.size w w') : Bm w0 w' g rows :=
  ⟨by rw [hb.block _ h.lt]; exact h.row, h.chg.trans (Idl.Chg.of_below (own := fun i => i = g) hb) (fun i hi => .inl hi)⟩
theorem Bm.row' (h : Bm w0 w g rows) (rows' : Array Value) : Bm w0 (w.setRow g rows') g rows' := by
  have hoth : ∀ i, i ≠ g → (w.setRow g rows').heap[i]? = w.heap[i]? := fun i hi => setRow_other _ _ _ _ hi
  have hsz : (w.setRow g rows').heap.size = w.heap.size := by simp [World.setRow]
  exact ⟨setRow_heap w g _ _ _ _ h.row, h.chg.trans (own' := fun i => i = g) ⟨rfl, rfl, rfl, by rw [hsz]; exact Nat.le_refl _, fun i _ hn => hoth i hn⟩ (fun i hi => .inl hi)⟩
theorem Bm.set (h : Bm w0 w g rows) (o : Nat) (v : Value) : Bm w0 (w.setCell ⟨g, o, none⟩ v) g (rows.setIfInBounds o v) := by
  rw [setCell_eq_setRow w g o _ _ _ v h.row]
  exact h.row' _
theorem Bm.has (h : Bm w0 w g (cs ++ (ds ++ tl))) (hm : IsImg cs m) : HasAt w g 0 m := hasAt_of h.row (by rw [Array.size_append, hm.size]; omega) (app_fst hm.size) hm
theorem Bm.hasD (h : Bm w0 w g (cs ++ (ds ++ tl))) (hm : IsImg cs m) (hk : IsImg ds k) : HasAt w g 94 k := hasAt_of h.row (by rw [Array.size_append, Array.size_append, hm.size, hk.size]; omega) (app3_snd hm.size hk.size) hk
theorem Bd.ent (h : Bm w0 w g (cs ++ (ds ++ tl))) (hm : IsImg cs m) {d s : Nat} (hd : d < 3) (hs : s < 4) (e : Ent) (he : e.name.size ≤ maxLen) : Bd w0 (w.setRow g (splice (cs ++ (ds ++ tl)) (40 + d * 12 + s * 3) #[.string e.name, .int .i64 e.ino, .int .i64 e.est])) g ds tl (m.putEnt d s e) := by
  rw [splice3 hm.size hd hs]
  exact ⟨_, h.row' _, hm.putEnt hd hs e he⟩
theorem Bd.ino (h : Bm w0 w g (cs ++ (ds ++ tl))) (hm : IsImg cs m) {n : Nat} (hn : n < 8) (i : Ino) : Bd w0 (w.setRow g (splice (cs ++ (ds ++ tl)) (n * 5) #[.bool i.live, .int .i64 i.stamp, .int .i64 i.links, .int .i64 i.p0, .int .i64 i.p1])) g ds tl (m.putIno n i) := by
  rw [splice5 hm.size hn]
  exact ⟨_, h.row' _, hm.putIno hn i⟩
theorem Bd.lnk (h : Bm w0 w g (cs ++ (ds ++ tl))) (hm : IsImg cs m) {n : Nat} (hn : n < 8) (v : Int) : Bd w0 (w.setCell ⟨g, n * 5 + 2, none⟩ (.int .i64 v)) g ds tl (m.putIno n ⟨m.live n, m.stamp n, v, m.part n 0, m.part n 1⟩) :=
  ⟨_, by rw [← app_set hm.size (by omega)]; exact h.set _ _, hm.putLinks hn v⟩
set_option maxHeartbeats 2000000 in
set_option maxRecDepth 100000 in
theorem rAdd_any (h : Bm w0 w g (cs ++ (ds ++ tl))) (hm : IsImg cs m) (hk : IsImg ds k) {d n s : Nat} (hd : d < 3) (hn : n < 8) (hs : s < 4) (he : Img.freeSlot m k (d : Int) = (s : Int)) (nm : ByteArray) (hnm : nm.size ≤ maxLen) (hlk : 0 ≤ m.links n ∧ m.links n ≤ 100) :
    Calls Tryz.prog 76 #[.pointer (some ⟨g, 0, none⟩), .int .i64 (d : Int), .string nm, .int .i64 (n : Int)] w fun e w' => e = .returned (.tuple #[]) ∧ Bd w0 w' g ds tl (Img.added m k (d : Int) nm n) := by
  have C1 := hide fun W (h1 : Bm w0 W g (cs ++ (ds ++ tl))) => bSlot_any g m k (d : Int) W (h1.has hm) (h1.hasD hm hk)
  rw [he] at C1
  have e1 : Img.added m k (d : Int) nm n = (m.putEnt d s ⟨nm, (n : Int), m.stamp n⟩).putIno n ⟨m.live n, m.stamp n, m.links n + 1, m.part n 0, m.part n 1⟩ := by unfold Img.added; rw [he, Int.toNat_natCast, Int.toNat_natCast]
  rw [e1]
  have HM := hide hm
  have zc := hm.size
  have FM1 := hide (h.call (Below.refl _ _).drew)
  clear h he e1
  go_enter Tryz.func76, Tryz.ntmps76
  go_wp2_with fail
  refine wp_region_F (S := fun W => HasAt W g 0 m) 21 (by kernel_rfl) ((unhide FM1).has (unhide HM)) (fun hS => ?_)
  refine wpAnyF_take (i := 0) (oi := ⟨some 8, .move (.tmp 0), 27, "base.go:498", #[], none⟩) (v := .pointer (some ⟨g, 0, none⟩)) rfl (by kernel_rfl) (by kernel_rfl) (by kernel_rfl) (by kernel_rfl) (fun _ _ _ h => h) (Or.inl ⟨by kernel_rfl, fun W h => (by first | kernel_rfl | go_simp)⟩) hS ?_
  try simp only [Act.put, z1, z2, z3]
  refine wpAnyF_take (i := 1) (oi := ⟨some 9, .move (.tmp 1), 3, "base.go:498", #[], none⟩) (v := .int .i64 (d : Int)) rfl (by kernel_rfl) (by kernel_rfl) (by kernel_rfl) (by kernel_rfl) (fun _ _ _ h => h) (Or.inl ⟨by kernel_rfl, fun W h => (by first | kernel_rfl | go_simp)⟩) hS ?_
  try simp only [Act.put, z1, z2, z3]
  refine wpAnyF_take (i := 2) (oi := ⟨some 10, .move (.tmp 0), 27, "base.go:498", #[], none⟩) (v := .pointer (some ⟨g, 0, none⟩)) rfl (by kernel_rfl) (by kernel_rfl) (by kernel_rfl) (by kernel_rfl) (fun _ _ _ h => h) (Or.inl ⟨by kernel_rfl, fun W h => (by first | kernel_rfl | go_simp)⟩) hS ?_
  try simp only [Act.put, z1, z2, z3]
  refine wpAnyF_take (i := 3) (oi := ⟨some 11, .move (.tmp 1), 3, "base.go:498", #[], none⟩) (v := .int .i64 (d : Int)) rfl (by kernel_rfl) (by kernel_rfl) (by kernel_rfl) (by kernel_rfl) (fun _ _ _ h => h) (Or.inl ⟨by kernel_rfl, fun W h => (by first | kernel_rfl | go_simp)⟩) hS ?_
  try simp only [Act.put, z1, z2, z3]
  refine wpAnyF_take (i := 5) (oi := ⟨some 13, .move (.tmp 2), 9, "base.go:498", #[], none⟩) (v := .string nm) rfl (by kernel_rfl) (by kernel_rfl) (by kernel_rfl) (by kernel_rfl) (fun _ _ _ h => h) (Or.inl ⟨by kernel_rfl, fun W h => (by first | kernel_rfl | go_simp)⟩) hS ?_
  try simp only [Act.put, z1, z2, z3]
  refine wpAnyF_take (i := 6) (oi := ⟨some 14, .move (.tmp 3), 3, "base.go:498", #[], none⟩) (v := .int .i64 (n : Int)) rfl (by kernel_rfl) (by kernel_rfl) (by kernel_rfl) (by kernel_rfl) (fun _ _ _ h => h) (Or.inl ⟨by kernel_rfl, fun W h => (by first | kernel_rfl | go_simp)⟩) hS ?_
  try simp only [Act.put, z1, z2, z3]
  refine wpAnyF_take (i := 7) (oi := ⟨some 15, .move (.tmp 0), 27, "base.go:498", #[], none⟩) (v := .pointer (some ⟨g, 0, none⟩)) rfl (by kernel_rfl) (by kernel_rfl) (by kernel_rfl) (by kernel_rfl) (fun _ _ _ h => h) (Or.inl ⟨by kernel_rfl, fun W h => (by first | kernel_rfl | go_simp)⟩) hS ?_
  try simp only [Act.put, z1, z2, z3]
  refine wpAnyF_take (i := 8) (oi := ⟨some 16, .move (.tmp 3), 3, "base.go:498", #[], none⟩) (v := .int .i64 (n : Int)) rfl (by kernel_rfl) (by kernel_rfl) (by kernel_rfl) (by kernel_rfl) (fun _ _ _ h => h) (Or.inl ⟨by kernel_rfl, fun W h => (by first | kernel_rfl | go_simp)⟩) hS ?_
  try simp only [Act.put, z1, z2, z3]
  refine wpAnyF_take (i := 9) (oi := ⟨some 17, .nilCheck (.tmp 15), 0, "base.go:498", #[⟨7, .data⟩], none⟩) (v := .pointer (some ⟨g, 0, none⟩)) rfl (by kernel_rfl) (by kernel_rfl) (by kernel_rfl) (by kernel_rfl) (fun _ _ _ h => h) (Or.inl ⟨by kernel_rfl, fun W h => (by first | kernel_rfl | go_simp)⟩) hS ?_
  try simp only [Act.put, z1, z2, z3]
  refine wpAnyF_take (i := 10) (oi := ⟨some 18, .fieldAddr 55 (.tmp 17) 0, 0, "base.go:498", #[⟨9, .data⟩], none⟩) (v := .pointer (some ⟨g, 0, none⟩)) rfl (by kernel_rfl) (by kernel_rfl) (by kernel_rfl) (by kernel_rfl) (fun _ _ _ h => h) (Or.inl ⟨by kernel_rfl, fun W h => (by first | kernel_rfl | go_simp)⟩) hS ?_
  try simp only [Act.put, z1, z2, z3]
  refine wpAnyF_take (i := 11) (oi := ⟨some 19, .fieldAddr 44 (.tmp 18) 0, 0, "base.go:498", #[⟨10, .data⟩], none⟩) (v := .pointer (some ⟨g, 0, none⟩)) rfl (by kernel_rfl) (by kernel_rfl) (by kernel_rfl) (by kernel_rfl) (fun _ _ _ h => h) (Or.inl ⟨by kernel_rfl, fun W h => (by first | kernel_rfl | go_simp)⟩) hS ?_
  try simp only [Act.put, z1, z2, z3]
  refine wpAnyF_take (i := 12) (oi := ⟨some 20, .indexAddr 35 (.tmp 19) (.tmp 16), 0, "base.go:498", #[⟨11, .data⟩, ⟨8, .data⟩], none⟩) (v := .pointer (some ⟨g, n * 5, none⟩)) rfl (by kernel_rfl) (by kernel_rfl) (by kernel_rfl) (by kernel_rfl) (fun _ _ _ h => h) (Or.inl ⟨by kernel_rfl, fun W h => Op1.ix_ino (.tmp 19) (.tmp 16) (by kernel_rfl) (by kernel_rfl) (by kernel_rfl) (hn) W⟩) hS ?_
  try simp only [Act.put, z1, z2, z3]
  refine wpAnyF_take (i := 13) (oi := ⟨some 21, .fieldAddr 34 (.tmp 20) 1, 0, "base.go:498", #[⟨12, .data⟩], none⟩) (v := .pointer (some ⟨g, n * 5 + 1, none⟩)) rfl (by kernel_rfl) (by kernel_rfl) (by kernel_rfl) (by kernel_rfl) (fun _ _ _ h => h) (Or.inl ⟨by kernel_rfl, fun W h => (by first | kernel_rfl | go_simp)⟩) hS ?_
  try simp only [Act.put, z1, z2, z3]
  refine wpAnyF_take (i := 14) (oi := ⟨some 22, .load 3 (.tmp 21), 3, "base.go:498", #[⟨13, .data⟩], none⟩) (v := .int .i64 (m.stamp n)) rfl (by kernel_rfl) (by kernel_rfl) (by kernel_rfl) (by kernel_rfl) (fun _ _ _ h => h) (Or.inl ⟨by kernel_rfl, fun W h => Op1.ld_int (.tmp 21) (by kernel_rfl) (by kernel_rfl) W (by have := h.stamp n hn; rw [Nat.zero_add] at this; exact this)⟩) hS ?_
  try simp only [Act.put, z1, z2, z3]
  refine wpAnyF_take (i := 15) (oi := ⟨some 23, .build 37 #[(0, .tmp 13), (1, .tmp 14), (2, .tmp 22)], 37, "base.go:498", #[⟨5, .data⟩, ⟨6, .data⟩, ⟨14, .data⟩], none⟩) (v := .agg #[.string nm, .int .i64 (n : Int), .int .i64 (m.stamp n)]) rfl (by kernel_rfl) (by kernel_rfl) (by kernel_rfl) (by kernel_rfl) (fun _ _ _ h => h) (Or.inl ⟨by kernel_rfl, fun W h => (by first | kernel_rfl | go_simp)⟩) hS ?_
  try simp only [Act.put, z1, z2, z3]
  refine wpAnyF_free (i := 16) (oi := ⟨some 24, .nilCheck (.tmp 8), 0, "base.go:498", #[⟨0, .data⟩], none⟩) (v := .pointer (some ⟨g, 0, none⟩)) rfl (by kernel_rfl) (by kernel_rfl) (by kernel_rfl) (by kernel_rfl) (fun _ _ _ h => h) (Or.inl ⟨by kernel_rfl, fun W _ => (by first | kernel_rfl | go_simp)⟩) hS ?_
  try simp only [Act.put, z1, z2, z3]
  refine wpAnyF_free (i := 17) (oi := ⟨some 25, .fieldAddr 55 (.tmp 24) 0, 0, "base.go:498", #[⟨16, .data⟩], none⟩) (v := .pointer (some ⟨g, 0, none⟩)) rfl (by kernel_rfl) (by kernel_rfl) (by kernel_rfl) (by kernel_rfl) (fun _ _ _ h => h) (Or.inl ⟨by kernel_rfl, fun W _ => (by first | kernel_rfl | go_simp)⟩) hS ?_
  try simp only [Act.put, z1, z2, z3]
  refine wpAnyF_free (i := 18) (oi := ⟨some 26, .fieldAddr 44 (.tmp 25) 1, 0, "base.go:498", #[⟨17, .data⟩], none⟩) (v := .pointer (some ⟨g, 40, none⟩)) rfl (by kernel_rfl) (by kernel_rfl) (by kernel_rfl) (by kernel_rfl) (fun _ _ _ h => h) (Or.inl ⟨by kernel_rfl, fun W _ => (by first | kernel_rfl | go_simp)⟩) hS ?_
  try simp only [Act.put, z1, z2, z3]
  refine wpAnyF_free (i := 19) (oi := ⟨some 27, .indexAddr 39 (.tmp 26) (.tmp 9), 0, "base.go:498", #[⟨18, .data⟩, ⟨1, .data⟩], none⟩) (v := .pointer (some ⟨g, 40 + d * 12, none⟩)) rfl (by kernel_rfl) (by kernel_rfl) (by kernel_rfl) (by kernel_rfl) (fun _ _ _ h => h) (Or.inl ⟨by kernel_rfl, fun W _ => Op1.ix_dir (.tmp 26) (.tmp 9) (by kernel_rfl) (by kernel_rfl) (by kernel_rfl) (hd) W⟩) hS ?_
  try simp only [Act.put, z1, z2, z3]
  generalize World.drew _ = W0 at hS FM1 ⊢
  refine wpAnyF_one (i := 4) (o := ⟨some 12, .call { callee := .value (.func 105), args := #[.tmp 10, .tmp 11], argTypes := #[27, 3] }, 3, "base.go:498", #[⟨2, .data⟩, ⟨3, .data⟩], none⟩) (by kernel_rfl) rfl (by kernel_rfl) (fun K hK => ?_)
  go_simp
  refine (unhide C1 W0 (unhide FM1)).mono ?_
  rintro e w1 ⟨rfl, q1, e9⟩
  have FM2 := hide ((unhide FM1).call (show Below W0.heap.size W0 w1 by rw [e9]; exact belowN (Below.refl _ _)))
  clear e9
  go_wp2_with fail
  have hS1 := (unhide FM2).has (unhide HM)
  refine hK.out _ _ (fun _ => hS1) ?_
  clear hK K
  try simp only [Act.put, z1, z2, z3]
  refine wpAnyF_take (i := 20) (oi := ⟨some 28, .indexAddr 38 (.tmp 27) (.tmp 12), 0, "base.go:498", #[⟨19, .data⟩, ⟨4, .data⟩, ⟨0, .phase⟩, ⟨1, .phase⟩, ⟨2, .phase⟩, ⟨3, .phase⟩, ⟨4, .phase⟩, ⟨5, .phase⟩, ⟨6, .phase⟩, ⟨7, .phase⟩, ⟨8, .phase⟩, ⟨9, .phase⟩, ⟨10, .phase⟩, ⟨11, .phase⟩, ⟨12, .phase⟩, ⟨13, .phase⟩, ⟨14, .phase⟩, ⟨15, .phase⟩], none⟩) (v := .pointer (some ⟨g, 40 + d * 12 + s * 3, none⟩)) rfl (by kernel_rfl) (by kernel_rfl) (by kernel_rfl) (by kernel_rfl) (fun _ _ _ h => h) (Or.inl ⟨by kernel_rfl, fun W h => Op1.ix_slot (.tmp 27) (.tmp 12) (by kernel_rfl) (by kernel_rfl) (by kernel_rfl) (hs) W⟩) hS1 ?_
  try simp only [Act.put, z1, z2, z3]
  refine wpAnyF_last (o := ⟨none, .store 37 (.tmp 28) (.tmp 23), 0, "base.go:498", #[⟨20, .data⟩, ⟨15, .data⟩, ⟨4, .chain⟩, ⟨0, .phase⟩, ⟨1, .phase⟩, ⟨2, .phase⟩, ⟨3, .phase⟩, ⟨4, .phase⟩, ⟨5, .phase⟩, ⟨6, .phase⟩, ⟨7, .phase⟩, ⟨8, .phase⟩, ⟨9, .phase⟩, ⟨10, .phase⟩, ⟨11, .phase⟩, ⟨12, .phase⟩, ⟨13, .phase⟩, ⟨14, .phase⟩, ⟨15, .phase⟩], none⟩) (by kernel_rfl) rfl (by kernel_rfl) (by kernel_rfl) (fun K hK => ?_)
  refine Op1.st_part (cells := #[.string nm, .int .i64 (n : Int), .int .i64 (m.stamp n)]) (o0 := 40 + d * 12 + s * 3) 37 (.tmp 28) (.tmp 23) (by kernel_rfl) rfl (by kernel_rfl) (by kernel_rfl) (unhide FM2).row sz_ent (by have := (unhide HM).size; simp; omega) (by simp [Value.oneCell']) ?_
  refine hK.out _ _ ?_
  clear hK K
  try simp only [Act.put, z1, z2, z3]
  refine wpAnyF_done (by kernel_rfl) ?_ _
  obtain ⟨cs1, f3, hm3⟩ := Bd.ent (unhide FM2) (unhide HM) hd hs ⟨nm, (n : Int), m.stamp n⟩ hnm
  have FM3 := hide f3
  have HM3 := hide hm3
  clear f3 hm3 hS hS1 FM1 FM2
  generalize w1.setRow g (splice (cs ++ (ds ++ tl)) (40 + d * 12 + s * 3) #[.string nm, .int .i64 (n : Int), .int .i64 (m.stamp n)]) = W3 at FM3 ⊢
  have FM4 := hide ((unhide FM3).call (Below.refl _ _).drew)
  go_wp2_with fail
  refine wp_region_F (S := fun W => HasAt W g 0 (m.putEnt d s ⟨nm, (n : Int), m.stamp n⟩)) 14 (by kernel_rfl) ((unhide FM4).has (unhide HM3)) (fun hS => ?_)
  refine wpAnyF_take (i := 0) (oi := ⟨some 29, .move (.tmp 0), 27, "base.go:499", #[], none⟩) (v := .pointer (some ⟨g, 0, none⟩)) rfl (by kernel_rfl) (by kernel_rfl) (by kernel_rfl) (by kernel_rfl) (fun _ _ _ h => h) (Or.inl ⟨by kernel_rfl, fun W h => (by first | kernel_rfl | go_simp)⟩) hS ?_
  try simp only [Act.put, z1, z2, z3]
  refine wpAnyF_take (i := 1) (oi := ⟨some 30, .move (.tmp 3), 3, "base.go:499", #[], none⟩) (v := .int .i64 (n : Int)) rfl (by kernel_rfl) (by kernel_rfl) (by kernel_rfl) (by kernel_rfl) (fun _ _ _ h => h) (Or.inl ⟨by kernel_rfl, fun W h => (by first | kernel_rfl | go_simp)⟩) hS ?_
  try simp only [Act.put, z1, z2, z3]
  refine wpAnyF_take (i := 2) (oi := ⟨some 31, .nilCheck (.tmp 29), 0, "base.go:499", #[⟨0, .data⟩], none⟩) (v := .pointer (some ⟨g, 0, none⟩)) rfl (by kernel_rfl) (by kernel_rfl) (by kernel_rfl) (by kernel_rfl) (fun _ _ _ h => h) (Or.inl ⟨by kernel_rfl, fun W h => (by first | kernel_rfl | go_simp)⟩) hS ?_
  try simp only [Act.put, z1, z2, z3]
  refine wpAnyF_take (i := 3) (oi := ⟨some 32, .fieldAddr 55 (.tmp 31) 0, 0, "base.go:499", #[⟨2, .data⟩], none⟩) (v := .pointer (some ⟨g, 0, none⟩)) rfl (by kernel_rfl) (by kernel_rfl) (by kernel_rfl) (by kernel_rfl) (fun _ _ _ h => h) (Or.inl ⟨by kernel_rfl, fun W h => (by first | kernel_rfl | go_simp)⟩) hS ?_
  try simp only [Act.put, z1, z2, z3]
  refine wpAnyF_take (i := 4) (oi := ⟨some 33, .fieldAddr 44 (.tmp 32) 0, 0, "base.go:499", #[⟨3, .data⟩], none⟩) (v := .pointer (some ⟨g, 0, none⟩)) rfl (by kernel_rfl) (by kernel_rfl) (by kernel_rfl) (by kernel_rfl) (fun _ _ _ h => h) (Or.inl ⟨by kernel_rfl, fun W h => (by first | kernel_rfl | go_simp)⟩) hS ?_
  try simp only [Act.put, z1, z2, z3]
  refine wpAnyF_take (i := 5) (oi := ⟨some 34, .indexAddr 35 (.tmp 33) (.tmp 30), 0, "base.go:499", #[⟨4, .data⟩, ⟨1, .data⟩], none⟩) (v := .pointer (some ⟨g, n * 5, none⟩)) rfl (by kernel_rfl) (by kernel_rfl) (by kernel_rfl) (by kernel_rfl) (fun _ _ _ h => h) (Or.inl ⟨by kernel_rfl, fun W h => Op1.ix_ino (.tmp 33) (.tmp 30) (by kernel_rfl) (by kernel_rfl) (by kernel_rfl) (hn) W⟩) hS ?_
  try simp only [Act.put, z1, z2, z3]
  refine wpAnyF_take (i := 6) (oi := ⟨some 35, .fieldAddr 34 (.tmp 34) 2, 0, "base.go:499", #[⟨5, .data⟩], none⟩) (v := .pointer (some ⟨g, n * 5 + 2, none⟩)) rfl (by kernel_rfl) (by kernel_rfl) (by kernel_rfl) (by kernel_rfl) (fun _ _ _ h => h) (Or.inl ⟨by kernel_rfl, fun W h => (by first | kernel_rfl | go_simp)⟩) hS ?_
  try simp only [Act.put, z1, z2, z3]
  refine wpAnyF_take (i := 7) (oi := ⟨some 36, .load 3 (.tmp 35), 3, "base.go:499", #[⟨6, .data⟩], none⟩) (v := .int .i64 (m.links n)) rfl (by kernel_rfl) (by kernel_rfl) (by kernel_rfl) (by kernel_rfl) (fun _ _ _ h => h) (Or.inl ⟨by kernel_rfl, fun W h => Op1.ld_int (.tmp 35) (by kernel_rfl) (by kernel_rfl) W (by have := h.links n hn; rw [Nat.zero_add] at this; exact this)⟩) hS ?_
  try simp only [Act.put, z1, z2, z3]
  refine wpAnyF_take (i := 8) (oi := ⟨some 37, .binOp .add 3 (.tmp 36) (.const (.int .i64 1)) 3, 3, "base.go:499", #[⟨7, .data⟩], none⟩) (v := .int .i64 (m.links n + 1)) rfl (by kernel_rfl) (by kernel_rfl) (by kernel_rfl) (by kernel_rfl) (fun _ _ _ h => h) (Or.inl ⟨by kernel_rfl, fun W h => Op1.add1 (.tmp 36) (by kernel_rfl) (by kernel_rfl) (by kernel_rfl) (by omega) W⟩) hS ?_
  try simp only [Act.put, z1, z2, z3]
  refine wpAnyF_free (i := 9) (oi := ⟨some 38, .nilCheck (.tmp 29), 0, "base.go:499", #[⟨0, .data⟩], none⟩) (v := .pointer (some ⟨g, 0, none⟩)) rfl (by kernel_rfl) (by kernel_rfl) (by kernel_rfl) (by kernel_rfl) (fun _ _ _ h => h) (Or.inl ⟨by kernel_rfl, fun W _ => (by first | kernel_rfl | go_simp)⟩) hS ?_
  try simp only [Act.put, z1, z2, z3]
  refine wpAnyF_free (i := 10) (oi := ⟨some 39, .fieldAddr 55 (.tmp 38) 0, 0, "base.go:499", #[⟨9, .data⟩], none⟩) (v := .pointer (some ⟨g, 0, none⟩)) rfl (by kernel_rfl) (by kernel_rfl) (by kernel_rfl) (by kernel_rfl) (fun _ _ _ h => h) (Or.inl ⟨by kernel_rfl, fun W _ => (by first | kernel_rfl | go_simp)⟩) hS ?_
  try simp only [Act.put, z1, z2, z3]
  refine wpAnyF_free (i := 11) (oi := ⟨some 40, .fieldAddr 44 (.tmp 39) 0, 0, "base.go:499", #[⟨10, .data⟩], none⟩) (v := .pointer (some ⟨g, 0, none⟩)) rfl (by kernel_rfl) (by kernel_rfl) (by kernel_rfl) (by kernel_rfl) (fun _ _ _ h => h) (Or.inl ⟨by kernel_rfl, fun W _ => (by first | kernel_rfl | go_simp)⟩) hS ?_
  try simp only [Act.put, z1, z2, z3]
  refine wpAnyF_free (i := 12) (oi := ⟨some 41, .indexAddr 35 (.tmp 40) (.tmp 30), 0, "base.go:499", #[⟨11, .data⟩, ⟨1, .data⟩, ⟨0, .phase⟩, ⟨1, .phase⟩, ⟨2, .phase⟩, ⟨3, .phase⟩, ⟨4, .phase⟩, ⟨5, .phase⟩, ⟨6, .phase⟩, ⟨7, .phase⟩, ⟨8, .phase⟩], none⟩) (v := .pointer (some ⟨g, n * 5, none⟩)) rfl (by kernel_rfl) (by kernel_rfl) (by kernel_rfl) (by kernel_rfl) (fun _ _ _ h => h) (Or.inl ⟨by kernel_rfl, fun W _ => Op1.ix_ino (.tmp 40) (.tmp 30) (by kernel_rfl) (by kernel_rfl) (by kernel_rfl) (hn) W⟩) hS ?_
  try simp only [Act.put, z1, z2, z3]
  refine wpAnyF_take (i := 13) (oi := ⟨some 42, .fieldAddr 34 (.tmp 41) 2, 0, "base.go:499", #[⟨12, .data⟩, ⟨0, .phase⟩, ⟨1, .phase⟩, ⟨2, .phase⟩, ⟨3, .phase⟩, ⟨4, .phase⟩, ⟨5, .phase⟩, ⟨6, .phase⟩, ⟨7, .phase⟩, ⟨8, .phase⟩], none⟩) (v := .pointer (some ⟨g, n * 5 + 2, none⟩)) rfl (by kernel_rfl) (by kernel_rfl) (by kernel_rfl) (by kernel_rfl) (fun _ _ _ h => h) (Or.inl ⟨by kernel_rfl, fun W h => (by first | kernel_rfl | go_simp)⟩) hS ?_
  try simp only [Act.put, z1, z2, z3]
  refine wpAnyF_last (o := ⟨none, .store 3 (.tmp 42) (.tmp 37), 0, "base.go:499", #[⟨13, .data⟩, ⟨8, .data⟩, ⟨0, .phase⟩, ⟨1, .phase⟩, ⟨2, .phase⟩, ⟨3, .phase⟩, ⟨4, .phase⟩, ⟨5, .phase⟩, ⟨6, .phase⟩, ⟨7, .phase⟩, ⟨8, .phase⟩], none⟩) (by kernel_rfl) rfl (by kernel_rfl) (by kernel_rfl) (fun K hK => ?_)
  refine Op1.st_int (.tmp 42) (.tmp 37) (by kernel_rfl) rfl (g := g) (o0 := n * 5 + 2) (v := m.links n + 1) (by kernel_rfl) (by kernel_rfl) (u := .int .i64 (m.links n)) (by have := hS.links n hn; rw [Nat.zero_add] at this; exact this) ((unhide FM4).frozen _) ?_
  refine hK.out _ _ ?_
  clear hK K
  try simp only [Act.put, z1, z2, z3]
  refine wpAnyF_done (by kernel_rfl) ?_ _
  go_wp2_with fail
  go_end0
  exact ⟨rfl, Bd.lnk (unhide FM4) (unhide HM3) hn (m.links n + 1)⟩
end
end Go.Proofs.YtmbpckmpnnmnmacGreat
namespace Go.Proofs.YtmbpckmpnnmnmacGreat
open Go.RowKit
set_option maxHeartbeats 400000 in
theorem rName_any (s : ByteArray) (hs : s.size ≤ maxLen) (w : World) :
    Calls Tryz.prog 52 #[.string s] w fun e w' => e = .returned (.bool (Img.isNmB s.toList)) ∧ w' = w := by
  unfold maxLen at hs
  by_cases h1 : s.size < 1
  · have e : Img.isNmB s.toList = false := by rw [isNmB_eq]; simp; omega
    rw [e]; clear e
    go_enter Tryz.func52, Tryz.ntmps52
    go_wp2
    go_ret
    exact ⟨rfl, rfl⟩
  by_cases h6 : 6 < s.size
  · have e : Img.isNmB s.toList = false := by rw [isNmB_eq]; simp; omega
    rw [e]; clear e
    go_enter Tryz.func52, Tryz.ntmps52
    go_wp2
    go_ret
    exact ⟨rfl, rfl⟩
  go_enter Tryz.func52, Tryz.ntmps52
  go_wp2
  go_loop [3] (fun i => ∃ k : Nat, k ≤ s.size ∧ i = .int .i64 k ∧ (s.toList.take k).all ltr = true) (fun i => s.size - (intOf i).toNat)
  case atStart => exact ⟨0, by omega, rfl, rfl⟩
  case round =>
    obtain ⟨k, hk, rfl, hall⟩ := hrel
    have H := hide hall
    clear hall
    by_cases hlt : k < s.size
    · by_cases hc : 97 ≤ (s[k].toNat : Int) ∧ (s[k].toNat : Int) ≤ 122
      · obtain ⟨c1, c2⟩ := hc
        go_wp2
        refine ⟨⟨k + 1, by omega, by go_num, ?_⟩, by simp [intOf]; omega⟩
        rw [all_take_snoc hlt, unhide H]
        simp [ltr]; omega
      · have e : Img.isNmB s.toList = false := nm_false_of hlt (by simp [ltr]; omega)
        have E := hide e
        clear e
        go_wp2
        all_goals first | (exfalso; omega) | (go_ret; exact ⟨ret_bool (unhide E).symm, rfl⟩)
    · go_wp2
      go_ret
      refine ⟨ret_bool ?_, rfl⟩
      have h2 := unhide H
      rw [List.take_of_length_le (by rw [len_toList]; omega)] at h2
      rw [isNmB_eq, h2]
      simp; omega
namespace Idl
theorem spot_prop (d : Int) (s : ByteArray) : spot d s = if d < 0 ∨ 3 ≤ d then 1 else if Img.isNmB s.toList = false then 2 else 0 := by
  unfold spot
  by_cases h : d < 0 ∨ 3 ≤ d
  · rw [if_pos h, if_pos]
    cases e : isD d
    · rfl
    · have := isD_iff.1 e; omega
  · rw [if_neg h, if_neg]
    rw [isD_iff.2 (by omega)]; simp
theorem chk_prop (x : Stp) (nb tb : Bool) (hn : nb = Img.isNmB x.name.toList) (ht : tb = Img.isNmB x.to.toList) : chk x = if x.kind < 1 ∨ 6 < x.kind then 7 else if x.dir < 0 ∨ 3 ≤ x.dir then 1 else if nb = false then 2 else
    if x.kind = 2 ∨ x.kind = 4 then (if x.toDir < 0 ∨ 3 ≤ x.toDir then 1 else if tb = false then 2 else 0) else if (x.kind = 5 ∨ x.kind = 6) ∧ (x.p < 0 ∨ 2 ≤ x.p) then 1 else if x.kind = 5 ∧ 8 < x.text.size then 3 else 0 := by
  unfold chk
  rw [spot_prop, spot_prop, ← hn, ← ht]
  by_cases h1 : x.kind < 1 ∨ 6 < x.kind
  · rw [if_pos h1, if_pos h1]
  · rw [if_neg h1, if_neg h1]
    by_cases h2 : x.dir < 0 ∨ 3 ≤ x.dir
    · rw [if_pos h2, if_pos h2, if_pos (by decide)]
    · rw [if_neg h2, if_neg h2]
      cases nb
      · rw [if_pos rfl, if_pos (by decide), if_pos rfl]
      · simp
set_option maxHeartbeats 4000000 in
theorem stepFault_any (x : Stp) (hn : x.name.size ≤ maxLen) (ht : x.to.size ≤ maxLen) (hx : x.text.size ≤ maxLen) (w : World) :
    Calls Tryz.prog 73 #[.agg (stpA x)] w fun e w' => e = .returned (.int .i64 (chk x)) ∧ Below w.heap.size w w' := by
  have c1 := fun w => rName_any x.name hn w
  have c2 := fun w => rName_any x.to ht w
  obtain ⟨nb, hnb⟩ : ∃ nb, nb = Img.isNmB x.name.toList := ⟨_, rfl⟩
  obtain ⟨tb, htb⟩ : ∃ tb, tb = Img.isNmB x.to.toList := ⟨_, rfl⟩
  rw [chk_prop x nb tb hnb htb]
  rw [← hnb] at c1
  rw [← htb] at c2
  have C1 := hide c1
  have C2 := hide c2
  clear c1 c2 hnb htb hn ht
  unfold maxLen at hx
  obtain ⟨K, D, TD, P, Nm, To, Tx⟩ := x
  simp only at hx C1 C2 ⊢
  cases nb <;> cases tb
  all_goals
    go_enter Tryz.func73, Tryz.ntmps73
    go_wp2_with (first
        | (go_at_call_of 52 (Value.string Nm); refine (unhide C1 _).mono ?_; rintro e w' ⟨rfl, rfl⟩)
        | (go_at_call_of 52 (Value.string To); refine (unhide C2 _).mono ?_; rintro e w' ⟨rfl, rfl⟩))
    all_goals
      go_ret
      refine ⟨ret_int ?_, (Below.refl _ _).alloc (Nat.le_refl _) _⟩
      clear C1 C2
      try simp only [beq_iff_eq, beq_eq_false_iff_ne, ne_eq] at *
      repeat' split
      all_goals first | rfl | omega | (exfalso; simp_all; done)
end Idl
end Go.Proofs.YtmbpckmpnnmnmacGreat
