/-
  The walk of eiderdownref.ImageFault: image.Check's own code. (Written by genck1.py.)
-/
import Derived.Test.YtlbgkpibaahgladDoorQCj0
import Derived.Test.YtlbgkpibaahgladDoorQCa
import Derived.Test.YtlbgkpibaahgladDoorQTp
import Derived.Deep.RegionHeld
import Derived.Deep.DeepCutAuto
import Derived.Deep.Cut
import Derived.Deep.CutRange
namespace Go.Proofs.YtlbgkpibaahgladDoor
open Go.RowKit
theorem ck_load_part {P : Program} {o : Oper} {ρ : Operand → Value} (ty : TypeId) (x : Operand) (ho : o.op = .load ty x) (g off n : Nat) (hx : ρ x = .pointer (some ⟨g, off, none⟩)) (w : World) (t : TypeId) (cs vs : Array Value) (d : TypeDesc)
    (hg : w.heap[g]? = some (.cells cs t (0, 0))) (hu : P.underlying ty = some d) (hd : (match d with | .struct _ | .array _ _ => true | _ => false) = true) (hi : (P.info? ty).map (·.size) = some n) (hn : off + n ≤ cs.size) (hv : cs.extract off (off + n) = vs) :
    (execOp ρ o).run P w = .ok (.value (.agg vs)) w := by
  subst hv
  unfold execOp
  simp only [ho, hx, Instr.loadAt, Instr.sureAddr, Sem.run_bind, Sem.run_pure, Result.andThen_ok, run_loadVar_part w g off n t ty cs d hg hu hd hi hn]
theorem ck_neql {P : Program} {o : Oper} {ρ : Operand → Value} (ty tz : TypeId) (x y : Operand) (ho : o.op = .binOp .neq ty x y tz) (cs ds : Array Value) (hx : ρ x = .agg cs) (hy : ρ y = .agg ds) (v : Bool)
    (hm : P.eqGuardType P.depth ty = false) (hq : ∀ w, (binOp .neq ty (.agg cs) (.agg ds)).run P w = .ok (.bool v) w) (w : World) : (execOp ρ o).run P w = .ok (.value (.bool v)) w := by
  unfold execOp
  rw [ho]
  go_simp
def FaultEq (m : Img) (e : Ending) : Prop := e = .returned (.int .i64 m.check)
theorem eqNo {m : Img} {c : Int} (h : m.check = c) : FaultEq m (.returned (.int .i64 c)) := by unfold FaultEq; rw [h]
namespace Img
variable {m : Img}
theorem slot_fault {d s : Nat} (hd : d < 3) (hs : s < 4) (H1 : ∀ j, j < d → ∀ t, t < 4 → m.checkSlot j t = 0) (H2 : ∀ t, t < s → m.checkSlot d t = 0) (c : Int) (hc : c ≠ 0) (h : m.checkSlot d s = c) : m.check = c := by
  have e1 : firstNZ (fun s => m.checkSlot d s) 4 = c := by rw [firstNZ_at (k := s) (by rw [h]; exact hc) H2 hs]; exact h
  have e2 : firstNZ (fun d => firstNZ (fun s => m.checkSlot d s) 4) 3 = c := by
    rw [firstNZ_at (f := fun d => firstNZ (fun s => m.checkSlot d s) 4) (k := d) (by show firstNZ (fun s => m.checkSlot d s) 4 ≠ 0; rw [e1]; exact hc) (fun j hj => firstNZ_zero fun t ht => H1 j hj t ht) hd]; exact e1
  unfold check; rw [e2, if_pos hc]
theorem ino_fault {n : Nat} (hn : n < 8) (FS : ∀ d, d < 3 → ∀ s, s < 4 → m.checkSlot d s = 0) (HN : ∀ j, j < n → m.checkInode j = 0) (c : Int) (hc : c ≠ 0) (h : m.checkInode n = c) : m.check = c := by
  have e1 : firstNZ (fun d => firstNZ (fun s => m.checkSlot d s) 4) 3 = 0 := firstNZ_zero fun d hd => firstNZ_zero fun s hs => FS d hd s hs
  have e2 : firstNZ (fun n => m.checkInode n) 8 = c := by rw [firstNZ_at (k := n) (by rw [h]; exact hc) HN hn]; exact h
  unfold check; rw [if_neg (by rw [e1]; simp), e2, if_pos hc]
theorem twice_11 (FS : ∀ d, d < 3 → ∀ s, s < 4 → m.checkSlot d s = 0) (FN : ∀ n, n < 8 → m.checkInode n = 0) (h : m.check ≠ 0) : m.check = 11 := by
  have e1 : firstNZ (fun d => firstNZ (fun s => m.checkSlot d s) 4) 3 = 0 := firstNZ_zero fun d hd => firstNZ_zero fun s hs => FS d hd s hs
  have e2 : firstNZ (fun n => m.checkInode n) 8 = 0 := firstNZ_zero fun n hn => FN n hn
  unfold check at h ⊢
  rw [if_neg (by rw [e1]; simp), if_neg (by rw [e2]; simp)] at h ⊢
  cases hb : (m.stampTwice || m.dataTwice)
  · rw [hb] at h; simp at h
  · simp
theorem cs_2 {d s : Nat} (hn : m.named d s = true) (hq : isNmB (m.name d s).toList = false) : m.checkSlot d s = 2 := by
  unfold checkSlot; rw [if_neg (by rw [hn]; simp), if_pos hq]
theorem cs_4 {d s : Nat} (hn : m.named d s = true) (hq : isNmB (m.name d s).toList = true) (hf : m.find d (m.name d s).toList < s) : m.checkSlot d s = 4 := by
  unfold checkSlot; rw [if_neg (by rw [hn]; simp), if_neg (by rw [hq]; simp), if_pos hf]
theorem cs_1 {d s : Nat} (hn : m.named d s = true) (hq : isNmB (m.name d s).toList = true) (hf : (s : Int) ≤ m.find d (m.name d s).toList) (hi : isI (m.ino d s) = false) : m.checkSlot d s = 1 := by
  unfold checkSlot; rw [if_neg (by rw [hn]; simp), if_neg (by rw [hq]; simp), if_neg (by omega), if_pos hi]
theorem cs_8 {d s : Nat} (hn : m.named d s = true) (hq : isNmB (m.name d s).toList = true) (hf : (s : Int) ≤ m.find d (m.name d s).toList) (hi : isI (m.ino d s) = true) (h : m.live (m.ino d s).toNat = false ∨ m.stamp (m.ino d s).toNat ≠ m.est d s) : m.checkSlot d s = 8 := by
  unfold checkSlot; rw [if_neg (by rw [hn]; simp), if_neg (by rw [hq]; simp), if_neg (by omega), if_neg (by rw [hi]; simp), if_pos h]
theorem cs_12 {d s : Nat} (h : m.named d s = false) (h1 : ¬ (m.ino d s = 0 ∧ m.est d s = 0)) : m.checkSlot d s = 12 := by
  unfold checkSlot; rw [if_pos h, if_neg h1]
theorem ci_12 {n : Nat} (hl : m.live n = false) (h : inoB (m.inode n) Ino.none = false) : m.checkInode n = 12 := by
  unfold checkInode; rw [if_pos hl, if_neg]
  intro z
  obtain ⟨a, b, c, d⟩ := z
  unfold inoB inode Ino.none at h
  rw [hl, a, b, c, d] at h
  cases h
theorem ci_9 {n : Nat} (hl : m.live n = true) (h : m.stamp n < 1 ∨ m.links n < m.refs n) : m.checkInode n = 9 := by
  unfold checkInode; rw [if_neg (by rw [hl]; simp), if_pos h]
theorem ci_part {n p : Nat} (hl : m.live n = true) (h1 : 1 ≤ m.stamp n) (h2 : ((m.refs (n : Int) : Nat) : Int) ≤ m.links n) (hp : p < 2) (HP : ∀ j, j < p → m.checkPart (m.part n j) (m.stamp n) = 0) {c : Int} (hc : c ≠ 0) (h : m.checkPart (m.part n p) (m.stamp n) = c) : m.checkInode n = c := by
  unfold checkInode
  rw [if_neg (by rw [hl]; simp), if_neg (by omega), firstNZ_at (f := fun p => m.checkPart (m.part n p) (m.stamp n)) (k := p) (by show m.checkPart (m.part n p) (m.stamp n) ≠ 0; rw [h]; exact hc) HP hp]
  exact h
theorem cp_1 {x st : Int} (h1 : x ≠ -1) (h2 : isD x = false) : m.checkPart x st = 1 := by
  unfold checkPart; rw [if_neg h1, if_pos h2]
theorem cp_10 {x st : Int} (h1 : x ≠ -1) (h2 : isD x = true) (h3 : m.of x.toNat ≠ st) : m.checkPart x st = 10 := by
  unfold checkPart; rw [if_neg h1, if_neg (by rw [h2]; simp), if_pos h3]
theorem bad_slot {d s : Nat} (hd : d < 3) (hs : s < 4) (h : m.checkSlot d s ≠ 0) : m.check ≠ 0 := fun e => h ((well_iff.1 e).slot d s hd hs)
theorem slot_12 {d s : Nat} (h : m.named d s = false) (h1 : ¬ (m.ino d s = 0 ∧ m.est d s = 0)) : m.checkSlot d s ≠ 0 := by
  unfold checkSlot; rw [if_pos h, if_neg h1]; decide
theorem slot_0 {d s : Nat} (h : m.named d s = false) (h1 : m.ino d s = 0) (h2 : m.est d s = 0) : m.checkSlot d s = 0 := by
  unfold checkSlot; rw [if_pos h, if_pos ⟨h1, h2⟩]
/-- no two parts lead to the same data -/
def TwoOk (m : Img) (n k p q : Nat) : Prop := m.live n = true → m.live k = true → (n ≠ k ∨ p ≠ q) → 0 ≤ m.part n p → m.part n p ≠ m.part k q
def StampOk (m : Img) (n k : Nat) : Prop := m.live n = true → m.live k = true → n ≠ k → m.stamp n ≠ m.stamp k
structure PairOk (m : Img) (n k : Nat) : Prop where
  stamp : StampOk m n k
  parts : ∀ p, p < 2 → ∀ q, q < 2 → TwoOk m n k p q
theorem pair_dead {n k : Nat} (h : m.live n = false ∨ m.live k = false) : PairOk m n k := by
  refine ⟨fun a b _ => ?_, fun _ _ _ _ a b => ?_⟩ <;> rcases h with h | h
  · rw [h] at a; cases a
  · rw [h] at b; cases b
  · rw [h] at a; cases a
  · rw [h] at b; cases b
theorem bad_stamp {n k : Nat} (hn : n < 8) (hk : k < 8) (l1 : m.live n = true) (l2 : m.live k = true) (hne : n ≠ k) (he : m.stamp n = m.stamp k) : m.check ≠ 0 :=
  fun e => stamps_ne (well_iff.1 e).stamps hn hk hne l1 l2 he
theorem bad_part {n k p q : Nat} (hn : n < 8) (hk : k < 8) (hp : p < 2) (hq : q < 2) (l1 : m.live n = true) (l2 : m.live k = true) (hne : n ≠ k ∨ p ≠ q) (h0 : 0 ≤ m.part n p) (he : m.part n p = m.part k q) : m.check ≠ 0 := by
  intro e
  have h1 := checkPart_iff.1 ((inode_parts_ok e hn l1).2.2 p hp)
  have hd : isD (m.part n p) = true := by
    rcases h1 with z | z
    · omega
    · exact z.1
  have e1 : m.pa (2 * n + p) = m.part n p := pa_live hp l1
  have e2 : m.pa (2 * k + q) = m.part k q := pa_live hq l2
  exact datas_ne (well_iff.1 e).datas (t := 2 * n + p) (u := 2 * k + q) (by omega) (by omega) (by omega) (by rw [e1]; exact hd) (by rw [e1, e2, he])
theorem fault_end (h1 : ∀ d, d < 3 → ∀ s, s < 4 → m.checkSlot d s = 0) (h2 : ∀ n, n < 8 → m.checkInode n = 0) (h3 : ∀ n, n < 8 → ∀ k, k < 8 → PairOk m n k) : m.check = 0 := by
  refine well_iff.2 ⟨fun d s hd hs => h1 d hd s hs, h2, ?_, ?_⟩
  · rw [stamps_iff]
    intro n k hn hk l1 l2
    exact (h3 n hn k (by omega)).stamp l1 l2 (by omega)
  · rw [datas_iff]
    intro t u ht hu l1 he
    have lt : m.live (t / 2) = true := by
      cases hl : m.live (t / 2)
      · rw [pa_of_dead hl] at l1; simp [isD] at l1
      · rfl
    have lu : m.live (u / 2) = true := by
      cases hl : m.live (u / 2)
      · rw [← he, pa_of_dead hl] at l1; simp [isD] at l1
      · rfl
    rw [pa_of_live lt] at l1 he
    rw [pa_of_live lu] at he
    have h0 : 0 ≤ m.part (t / 2) (t % 2) ∧ m.part (t / 2) (t % 2) < 9 := by simpa [isD] using l1
    exact (h3 (t / 2) (by omega) (u / 2) (by omega)).parts (t % 2) (by omega) (u % 2) (by omega) lt lu (by omega) h0.1 he.symm
theorem bad_ino {n : Nat} (hn : n < 8) (h : m.checkInode n ≠ 0) : m.check ≠ 0 := fun e => h ((well_iff.1 e).inode n hn)
theorem ino_12 {n : Nat} (hn : n < 8) (hl : m.live n = false) (h : inoB (m.inode n) Ino.none = false) : m.check ≠ 0 := fun e => by
  rw [inode_free_ok e hn hl] at h; cases h
theorem ino_none {n : Nat} (h : inoB (m.inode n) Ino.none = true) : m.inode n = Ino.none := by
  unfold inoB at h
  simp only [Bool.and_eq_true, beq_iff_eq] at h
  obtain ⟨⟨⟨⟨h1, h2⟩, h3⟩, h4⟩, h5⟩ := h
  have e : ∀ i : Ino, i.live = Ino.none.live → i.stamp = Ino.none.stamp → i.links = Ino.none.links → i.p0 = Ino.none.p0 → i.p1 = Ino.none.p1 → i = Ino.none := fun i a b c d f => by cases i; simp_all
  exact e _ h1 h2 h3 h4 h5
end Img
structure Bx5 (w X : World) (g : Nat) (m : Img) (n : Nat) : Prop where
  below : Below w.heap.size w X
  row : X.heap[g]? = some (.cells #[.bool (m.live n), .int .i64 (m.stamp n), .int .i64 (m.links n), .int .i64 (m.part n 0), .int .i64 (m.part n 1)] 24)
theorem Bx5.mk' {w wr : World} (h : Below w.heap.size w wr) (m : Img) (n : Nat) : Bx5 w (wr.alloc (.cells #[.bool (m.live n), .int .i64 (m.stamp n), .int .i64 (m.links n), .int .i64 (m.part n 0), .int .i64 (m.part n 1)] 24)) wr.heap.size m n := ⟨h.alloc h.size _, heap_alloc_last _ _⟩
theorem Bx5.draw {w X : World} {g : Nat} {m : Img} {n : Nat} (h : Bx5 w X g m n) (q : Nat) : Bx5 w (X.drewN q) g m n := ⟨belowN h.below, h.row⟩
structure Cells5 (X : World) (g : Nat) (m : Img) (n : Nat) : Prop where
  c0 : X.cell? ⟨g, 0, none⟩ = some (.bool (m.live n))
  c1 : X.cell? ⟨g, 1, none⟩ = some (.int .i64 (m.stamp n))
  c2 : X.cell? ⟨g, 2, none⟩ = some (.int .i64 (m.links n))
  c3 : X.cell? ⟨g, 3, none⟩ = some (.int .i64 (m.part n 0))
  c4 : X.cell? ⟨g, 4, none⟩ = some (.int .i64 (m.part n 1))
  part : ∀ p, p < 2 → X.cell? ⟨g, 3 + p, none⟩ = some (.int .i64 (m.part n p))
theorem Bx5.cells {w X : World} {g : Nat} {m : Img} {n : Nat} (h : Bx5 w X g m n) : Cells5 X g m n := by
  have r := h.row
  refine ⟨by rw [cell_of_row _ _ _ _ _ _ r]; rfl, by rw [cell_of_row _ _ _ _ _ _ r]; rfl, by rw [cell_of_row _ _ _ _ _ _ r]; rfl, by rw [cell_of_row _ _ _ _ _ _ r]; rfl, by rw [cell_of_row _ _ _ _ _ _ r]; rfl, fun p hp => ?_⟩
  rw [cell_of_row _ _ _ _ _ _ r]
  match p, hp with
  | 0, _ => rfl
  | 1, _ => rfl
theorem Bx5.lt {w X : World} {g : Nat} {m : Img} {n : Nat} (h : Bx5 w X g m n) : g < X.heap.size := (Array.getElem?_eq_some_iff.1 h.row).1
theorem all_succ' {p : Nat → Prop} {n : Nat} (h : ∀ j, j < n → p j) (hn : p n) : ∀ j, j < n + 1 → p j := fun j hj => by
  by_cases e : j = n
  · subst e; exact hn
  · exact h j (by omega)
set_option maxRecDepth 100000 in
set_option maxHeartbeats 8000000 in
theorem faultEq_any (b : Nat) (m : Img) (w : World) (hm : HasImg w b m) :
    Calls Tryd.prog 6 #[.pointer (some ⟨b, 0, none⟩)] w fun e w' => FaultEq m e ∧ Below w.heap.size w w' := by
  have hlb := hm.lt
  have HM := hide hm
  clear hm
  go_enter Tryd.func6, Tryd.ntmps6
  go_wp2_with fail
  go_loopw [3] (fun i wr => ∃ d : Nat, d ≤ 3 ∧ i = .int .i64 d ∧ Hid (Below w.heap.size w wr) ∧ Hid (∀ j, j < d → ∀ s, s < 4 → m.checkSlot j s = 0)) (fun i _ => 3 - (intOf i).toNat)
  case atStart => exact ⟨0, by omega, rfl, hide (Below.refl _ _), hide fun j hj => by omega⟩
  case round =>
    obtain ⟨d, hd, rfl, HB, HD⟩ := hrel
    by_cases hld : d < 3
    · have t3 : decide ((d : Int) < 3) = true := by simp; omega
      have ND := hide (fun (h : ∀ s, s < 4 → m.checkSlot d s = 0) => all_succ' (unhide HD) h)
      have HDX := HD
      clear HD
      go_wp2_with fail
      go_loopw [4] (fun i wr => ∃ s : Nat, s ≤ 4 ∧ i = .int .i64 s ∧ Hid (Below w.heap.size w wr) ∧ Hid (∀ j, j < s → m.checkSlot d j = 0)) (fun i _ => 4 - (intOf i).toNat)
      case atStart => exact ⟨0, by omega, rfl, HB, hide fun j hj => by omega⟩
      case round =>
        as_aux_lemma =>
          clear HB
          obtain ⟨s, hs, rfl, HB, HS⟩ := hrel
          by_cases hls : s < 4
          · have t4 : decide ((s : Int) < 4) = true := by simp; omega
            have NS := hide (fun (h : m.checkSlot d s = 0) => all_succ' (unhide HS) h)
            have BD := hide (Img.slot_fault hld hls (unhide HDX) (unhide HS))
            clear HS
            have hM := (unhide HM).below (unhide HB) hlb
            have lb := hM.lt
            have n1 := hM.name d s hld hls
            have i1 := hM.ino d s hld hls
            have s1 := hM.est d s hld hls
            have hsm := hM.small d s
            have HA := hide ((unhide HB).alloc (unhide HB).size (.cells #[.string (m.name d s), .int .i64 (m.ino d s), .int .i64 (m.est d s)] 27))
            have HM2 := hide ((unhide HM).below (unhide HA) hlb)
            have LV := hide (fun (j : Nat) (hj : j < 8) => hM.live j hj)
            have ST := hide (fun (j : Nat) (hj : j < 8) => hM.stamp j hj)
            clear hM
            cases hem : (m.name d s).toList.isEmpty
            · have hnm : m.named d s = true := by unfold Img.named; rw [hem]; rfl
              have OK := hide (Img.slot_ok hnm)
              have HNM := hide hnm
              clear hnm
              go_wp2_with fail
              refine (rIsName_any _ hsm _).mono ?_
              cases hq : Img.isNmB (m.name d s).toList
              · have Z := hide (unhide BD 2 (by decide) (Img.cs_2 (unhide HNM) hq))
                rintro e wz ⟨rfl, ez⟩
                rw [ez]
                clear ez wz
                go_wp2_with fail
                go_ret
                exact ⟨eqNo (unhide Z), unhide HA⟩
              · rintro e wz ⟨rfl, ez⟩
                rw [ez]
                clear ez wz
                go_wp2_with fail
                refine (rSlotOf_in b m d hld _ hem _ (unhide HM2).at).mono ?_
                rintro e wz ⟨rfl, ez⟩
                rw [ez]
                clear ez wz
                have FI := hide (show (s : Int) ≤ m.find d (m.name d s).toList ∨ m.find d (m.name d s).toList < (s : Int) by omega)
                generalize hfi : m.find d (m.name d s).toList = fi at FI
                have HFI := hide hfi
                clear hfi
                by_cases hf : fi < (s : Int)
                · have tf : decide (fi < (s : Int)) = true := by simpa using hf
                  have Z := hide (unhide BD 4 (by decide) (Img.cs_4 (unhide HNM) hq (by rw [unhide HFI]; exact hf)))
                  clear hf
                  go_wp2_with fail
                  go_ret
                  exact ⟨eqNo (unhide Z), unhide HA⟩
                · have tf : decide (fi < (s : Int)) = false := by simpa using hf
                  have F1 := hide (show (s : Int) ≤ m.find d (m.name d s).toList by rw [unhide HFI]; omega)
                  clear hf
                  by_cases hlo : m.ino d s < 0
                  · have u1 : decide (m.ino d s < 0) = true := by simpa using hlo
                    have Z := hide (unhide BD 1 (by decide) (Img.cs_1 (unhide HNM) hq (unhide F1) (by simp [Img.isI]; omega)))
                    clear hlo
                    go_wp2_with fail
                    go_ret
                    exact ⟨eqNo (unhide Z), unhide HA⟩
                  · have u1 : decide (m.ino d s < 0) = false := by simpa using hlo
                    by_cases hhi : 8 ≤ m.ino d s
                    · have u2 : decide (8 ≤ m.ino d s) = true := by simpa using hhi
                      have u3 : decide (m.ino d s ≥ 8) = true := by simpa using hhi
                      have Z := hide (unhide BD 1 (by decide) (Img.cs_1 (unhide HNM) hq (unhide F1) (by simp [Img.isI]; omega)))
                      clear hhi hlo
                      go_wp2_with fail
                      go_ret
                      exact ⟨eqNo (unhide Z), unhide HA⟩
                    · have u2 : decide (8 ≤ m.ino d s) = false := by simpa using hhi
                      have u3 : decide (m.ino d s ≥ 8) = false := by simpa using hhi
                      obtain ⟨ii, hii⟩ := Int.eq_ofNat_of_zero_le (show 0 ≤ m.ino d s by omega)
                      have hi8 : ii < 8 := by omega
                      have l1 := unhide LV ii hi8
                      have l2 := unhide ST ii hi8
                      have II := hide hii
                      rw [hii] at i1 u1 u2 u3
                      clear hlo hhi LV ST
                      have BOX : (.cells #[.string (m.name d s), .int .i64 (m.ino d s), .int .i64 (m.est d s)] 27 : Obj) = .cells #[.string (m.name d s), .int .i64 (ii : Int), .int .i64 (m.est d s)] 27 := by rw [hii]
                      rw [BOX] at HA
                      rw [BOX]
                      rw [hii]
                      clear hii BOX
                      cases hl : m.live ii
                      · rw [hl] at l1
                        have Z := hide (unhide BD 8 (by decide) (Img.cs_8 (unhide HNM) hq (unhide F1) (by rw [unhide II]; simp [Img.isI]; omega) (.inl (by rw [unhide II, Int.toNat_natCast]; exact hl))))
                        go_wp2_with fail
                        go_quiet (fail)
                        go_wp2_with fail
                        go_ret
                        exact ⟨eqNo (unhide Z), by first | exact belowN (unhide HA) | exact (unhide HA).drew⟩
                      · rw [hl] at l1
                        by_cases hst : m.stamp ii = m.est d s
                        · have Z := hide (unhide NS ((unhide OK).2 ⟨hq, unhide F1, by have := unhide II; omega, by have := unhide II; omega, by rw [unhide II, Int.toNat_natCast]; exact hl, by rw [unhide II, Int.toNat_natCast]; exact hst⟩))
                          rw [hst] at l2
                          clear hst
                          go_wp2_with fail
                          go_quiet (fail)
                          go_wp2_with fail
                          go_roundw
                          case rel => exact ⟨s + 1, by omega, by go_num, by first | exact hide (belowN (unhide HA)) | exact hide (unhide HA).drew, Z⟩
                          case measure => simp [intOf]; omega
                        · have h3 : (m.stamp ii == m.est d s) = false := by simpa using hst
                          have h4 : (m.stamp ii != m.est d s) = true := by simpa using hst
                          have h5 : decide (m.stamp ii = m.est d s) = false := by simpa using hst
                          have Z := hide (unhide BD 8 (by decide) (Img.cs_8 (unhide HNM) hq (unhide F1) (by rw [unhide II]; simp [Img.isI]; omega) (.inr (by rw [unhide II, Int.toNat_natCast]; exact hst))))
                          go_wp2_with fail
                          go_quiet (fail)
                          go_wp2_with fail
                          go_ret
                          exact ⟨eqNo (unhide Z), by first | exact belowN (unhide HA) | exact (unhide HA).drew⟩
            · have hnm : m.named d s = false := by unfold Img.named; rw [hem]; rfl
              clear HM2 LV ST
              by_cases h1 : m.ino d s = 0
              · by_cases h2 : m.est d s = 0
                · have Z := hide (unhide NS (Img.slot_0 hnm h1 h2))
                  have E1 := hide h1
                  have E2 := hide h2
                  rw [h1] at i1
                  rw [h2] at s1
                  rw [h1, h2] at HA
                  clear h1 h2 hnm
                  go_wp2_with fail
                  go_roundw
                  case rel => exact ⟨s + 1, by omega, by go_num, HA, Z⟩
                  case measure => simp [intOf]; omega
                · have Z := hide (unhide BD 12 (by decide) (Img.cs_12 hnm (fun z => h2 z.2)))
                  have h3 : (m.est d s == 0) = false := by simpa using h2
                  have h4 : (m.est d s != 0) = true := by simpa using h2
                  rw [h1] at i1 HA
                  clear h1 hnm
                  go_wp2_with fail
                  go_ret
                  exact ⟨eqNo (unhide Z), unhide HA⟩
              · have Z := hide (unhide BD 12 (by decide) (Img.cs_12 hnm (fun z => h1 z.1)))
                have h3 : (m.ino d s == 0) = false := by simpa using h1
                have h4 : (m.ino d s != 0) = true := by simpa using h1
                clear hnm
                go_wp2_with fail
                go_ret
                exact ⟨eqNo (unhide Z), unhide HA⟩
          · have t4 : decide ((s : Int) < 4) = false := by simp; omega
            have es : s = 4 := by omega
            subst es
            have Z := hide (unhide ND (unhide HS))
            go_wp2_with fail
            go_roundw
            case rel => exact ⟨d + 1, by omega, by go_num, HB, Z⟩
            case measure => simp [intOf]; omega
    · have t3 : decide ((d : Int) < 3) = false := by simp; omega
      have ed : d = 3 := by omega
      subst ed
      have FS := HD
      clear HD
      go_wp2_with fail
      go_loopw [6] (fun i wr => ∃ n : Nat, n ≤ 8 ∧ i = .int .i64 n ∧ Hid (Below w.heap.size w wr) ∧ Hid (∀ j, j < n → m.checkInode j = 0)) (fun i _ => 8 - (intOf i).toNat)
      case atStart => exact ⟨0, by omega, rfl, HB, hide fun j hj => by omega⟩
      case round =>
        clear HB
        obtain ⟨n, hn, rfl, HB, HN⟩ := hrel
        by_cases hln : n < 8
        · as_aux_lemma =>
            have t8 : decide ((n : Int) < 8) = true := by simp; omega
            have NN := hide (fun (h : m.checkInode n = 0) => all_succ' (unhide HN) h)
            have IF := hide (Img.ino_fault hln (unhide FS) (unhide HN))
            clear HN
            have hM := (unhide HM).below (unhide HB) hlb
            have lb := hM.lt
            have a0 := hM.live n hln
            have a1 := hM.stamp n hln
            have a2 := hM.links n hln
            have a3 := hM.part n 0 hln (by omega)
            have a4 := hM.part n 1 hln (by omega)
            have P0 := hide (Bx5.mk' (unhide HB) m n)
            clear hM
            go_upto_region 23 with fail
            generalize (wr.alloc (.cells #[.bool (m.live n), .int .i64 (m.stamp n), .int .i64 (m.links n), .int .i64 (m.part n 0), .int .i64 (m.part n 1)] 24)) = X at P0 ⊢
            generalize wr.heap.size = g at P0 ⊢
            clear a0 a1 a2 a3 a4 lb HB
            have gl := (unhide P0).lt
            cases hl : m.live n
            · have c0 := (unhide P0).cells.c0
              rw [hl] at c0
              have qn : ∀ w, (binOp .neq 24 (.agg #[.bool (m.live n), .int .i64 (m.stamp n), .int .i64 (m.links n), .int .i64 (m.part n 0), .int .i64 (m.part n 1)]) (.agg #[.bool false, .int .i64 0, .int .i64 0, .int .i64 (-1), .int .i64 (-1)])).run Tryd.prog w = .ok (.bool (!inoB (m.inode n) Ino.none)) w := fun w => neqlInode (m.inode n) Ino.none w
              have hsz := (unhide P0).below.size
              cases hv : inoB (m.inode n) Ino.none
              · have Z := hide (unhide IF 12 (by decide) (Img.ci_12 hl hv))
                rw [hv] at qn
                clear hl hv
                go_wp2_with fail
                refine wp_region_held_drew (S := fun W => W.heap[g]? = some (.cells #[.bool (m.live n), .int .i64 (m.stamp n), .int .i64 (m.links n), .int .i64 (m.part n 0), .int .i64 (m.part n 1)] 24)) (by kernel_rfl) (unhide P0).row (fun hS => ?_)
                refine wpAnyH_take (i := 0) (oi := { dst := some 95, op := Op.load 24 (Operand.tmp 7), type := 24, pos := "base.go:162", after := #[], guard := none }) (v := .agg #[.bool (m.live n), .int .i64 (m.stamp n), .int .i64 (m.links n), .int .i64 (m.part n 0), .int .i64 (m.part n 1)]) rfl (by kernel_rfl) (by kernel_rfl) (by kernel_rfl) (fun _ _ _ h => h) (Or.inl ⟨by kernel_rfl, fun W h => ck_load_part 24 (.tmp 7) (by kernel_rfl) g 0 5 (by kernel_rfl) W 24 #[.bool (m.live n), .int .i64 (m.stamp n), .int .i64 (m.links n), .int .i64 (m.part n 0), .int .i64 (m.part n 1)] #[.bool (m.live n), .int .i64 (m.stamp n), .int .i64 (m.links n), .int .i64 (m.part n 0), .int .i64 (m.part n 1)] _ h ino_under rfl ino_info (Nat.le_refl 5) rfl⟩) hS ?_
                refine wpAnyH_ready (rs := [1]) (by kernel_rfl) (by simp) ?_
                refine AllReadyH.cons (o := { dst := some 96, op := Op.call { callee := Callee.value (Operand.func 13), args := #[], argTypes := #[] }, type := 24, pos := "base.go:162", after := #[], guard := none }) rfl (fun K hK => ?_) AllReadyH.nil
                go_simp
                refine (none_any _).mono ?_
                rintro e w' ⟨rfl, hb⟩
                go_wp2_with fail
                refine hK.out _ _ (by rw [hb.block _ (by simpa using gl)]; exact hS) (fun hS1 => ?_)
                clear hK K
                refine wpAnyH_take (i := 2) (oi := { dst := some 97, op := Op.binOp BinOp.neq 24 (Operand.tmp 95) (Operand.tmp 96) 24, type := 4, pos := "base.go:162", after := #[{ on := 0, ground := Ground.data }, { on := 1, ground := Ground.data }], guard := none }) (v := .bool true) rfl (by kernel_rfl) (by kernel_rfl) (by kernel_rfl) (fun _ _ _ h => h) (Or.inl ⟨by kernel_rfl, fun W h => ck_neql 24 24 (.tmp 95) (.tmp 96) (by kernel_rfl) _ _ (by kernel_rfl) (by kernel_rfl) _ Tryd.eqGuardType24 qn W⟩) hS1 ?_
                refine wpAnyH_done (by kernel_rfl) ?_ _
                simp only [Act.put, List.setIfInBounds_toArray, List.set_cons_zero, List.set_cons_succ]
                all_goals
                  go_wp2_with fail
                  go_ret
                  exact ⟨eqNo (unhide Z), ((unhide P0).below.drew).trans (hb.mono (by simpa using hsz))⟩
              · have Z := hide (unhide NN (Img.checkInode_none (Img.ino_none hv)))
                rw [hv] at qn
                clear hl hv
                go_wp2_with fail
                refine wp_region_held_drew (S := fun W => W.heap[g]? = some (.cells #[.bool (m.live n), .int .i64 (m.stamp n), .int .i64 (m.links n), .int .i64 (m.part n 0), .int .i64 (m.part n 1)] 24)) (by kernel_rfl) (unhide P0).row (fun hS => ?_)
                refine wpAnyH_take (i := 0) (oi := { dst := some 95, op := Op.load 24 (Operand.tmp 7), type := 24, pos := "base.go:162", after := #[], guard := none }) (v := .agg #[.bool (m.live n), .int .i64 (m.stamp n), .int .i64 (m.links n), .int .i64 (m.part n 0), .int .i64 (m.part n 1)]) rfl (by kernel_rfl) (by kernel_rfl) (by kernel_rfl) (fun _ _ _ h => h) (Or.inl ⟨by kernel_rfl, fun W h => ck_load_part 24 (.tmp 7) (by kernel_rfl) g 0 5 (by kernel_rfl) W 24 #[.bool (m.live n), .int .i64 (m.stamp n), .int .i64 (m.links n), .int .i64 (m.part n 0), .int .i64 (m.part n 1)] #[.bool (m.live n), .int .i64 (m.stamp n), .int .i64 (m.links n), .int .i64 (m.part n 0), .int .i64 (m.part n 1)] _ h ino_under rfl ino_info (Nat.le_refl 5) rfl⟩) hS ?_
                refine wpAnyH_ready (rs := [1]) (by kernel_rfl) (by simp) ?_
                refine AllReadyH.cons (o := { dst := some 96, op := Op.call { callee := Callee.value (Operand.func 13), args := #[], argTypes := #[] }, type := 24, pos := "base.go:162", after := #[], guard := none }) rfl (fun K hK => ?_) AllReadyH.nil
                go_simp
                refine (none_any _).mono ?_
                rintro e w' ⟨rfl, hb⟩
                go_wp2_with fail
                refine hK.out _ _ (by rw [hb.block _ (by simpa using gl)]; exact hS) (fun hS1 => ?_)
                clear hK K
                refine wpAnyH_take (i := 2) (oi := { dst := some 97, op := Op.binOp BinOp.neq 24 (Operand.tmp 95) (Operand.tmp 96) 24, type := 4, pos := "base.go:162", after := #[{ on := 0, ground := Ground.data }, { on := 1, ground := Ground.data }], guard := none }) (v := .bool false) rfl (by kernel_rfl) (by kernel_rfl) (by kernel_rfl) (fun _ _ _ h => h) (Or.inl ⟨by kernel_rfl, fun W h => ck_neql 24 24 (.tmp 95) (.tmp 96) (by kernel_rfl) _ _ (by kernel_rfl) (by kernel_rfl) _ Tryd.eqGuardType24 qn W⟩) hS1 ?_
                refine wpAnyH_done (by kernel_rfl) ?_ _
                simp only [Act.put, List.setIfInBounds_toArray, List.set_cons_zero, List.set_cons_succ]
                all_goals
                  have HBN := hide (((unhide P0).below.drew).trans (hb.mono (by simpa using hsz)))
                  go_wp2_with fail
                  go_roundw
                  case rel => first | exact ⟨n + 1, by omega, by go_num, HBN, Z⟩ | ((repeat apply Exists.intro); exact ⟨⟨n + 1, by omega, by go_num, HBN, Z⟩, rfl⟩)
                  case measure => simp [intOf]; omega
            · obtain ⟨c0, c1, c2, _, _, _⟩ := (unhide P0).cells
              rw [hl] at c0
              have CL := hide (fun (q : Nat) => rLeads_any b m (n : Int) _ ((unhide HM).below (belowN (n := q) (unhide P0).below) hlb))
              have HL := hide hl
              clear hl
              by_cases h1 : m.stamp n < 1
              · have u1 : decide (m.stamp n < 1) = true := by simpa using h1
                have Z := hide (unhide IF 9 (by decide) (Img.ci_9 (unhide HL) (.inl h1)))
                clear h1
                go_wp2_with fail
                try (go_quiet (fail); go_wp2_with fail)
                go_ret
                exact ⟨eqNo (unhide Z), by first | exact (unhide P0).below | exact belowN ((unhide P0).below)⟩
              · have u1 : decide (m.stamp n < 1) = false := by simpa using h1
                have H1 := hide (show 1 ≤ m.stamp n by omega)
                clear h1
                have hr := m.refs_le (n : Int)
                obtain ⟨rr, hrr⟩ : ∃ rr : Int, rr = ((m.refs (n : Int) : Nat) : Int) := ⟨_, rfl⟩
                rw [← hrr] at CL
                have HR := hide hrr
                clear hrr hr
                by_cases h2 : m.links n < rr
                · have u2 : decide (m.links n < rr) = true := by simpa using h2
                  have Z := hide (unhide IF 9 (by decide) (Img.ci_9 (unhide HL) (.inr (by have := unhide HR; omega))))
                  clear h2
                  go_wp2_with fail
                  go_quiet ((go_at_call 14; exact Calls.quiet_of_same (unhide CL _)))
                  go_wp2_with fail
                  go_ret
                  exact ⟨eqNo (unhide Z), by first | exact (unhide P0).below | exact belowN (unhide P0).below⟩
                · have u2 : decide (m.links n < rr) = false := by simpa using h2
                  have H2 := hide (show ((m.refs (n : Int) : Nat) : Int) ≤ m.links n by have := unhide HR; omega)
                  clear h2
                  go_wp2_with fail
                  go_quiet ((go_at_call 14; exact Calls.quiet_of_same (unhide CL _)))
                  go_wp2_with fail
                  go_loopw [8] (fun i wx => ∃ p : Nat, p ≤ 2 ∧ i = .int .i64 p ∧ Hid (Bx5 w wx g m n) ∧ Hid (∀ q, q < p → m.checkPart (m.part n q) (m.stamp n) = 0)) (fun i _ => 2 - (intOf i).toNat)
                  case atStart => exact ⟨0, by omega, rfl, by first | exact P0 | exact hide ((unhide P0).draw _), hide fun j hj => by omega⟩
                  case round =>
                    clear P0 c0 c1 c2 CL gl
                    obtain ⟨p, hp, rfl, P0, HP⟩ := hrel
                    have c1 := (unhide P0).cells.c1
                    by_cases hlp : p < 2
                    · have v2 : decide ((p : Int) < 2) = true := by simp; omega
                      have cp := (unhide P0).cells.part p hlp
                      have NP := hide (fun (h : m.checkPart (m.part n p) (m.stamp n) = 0) => all_succ' (unhide HP) h)
                      have BP := hide (show ∀ c : Int, c ≠ 0 → m.checkPart (m.part n p) (m.stamp n) = c → m.check = c from fun c hc h => unhide IF c hc (Img.ci_part (unhide HL) (unhide H1) (unhide H2) hlp (unhide HP) hc h))
                      clear HP
                      have hM := (unhide HM).below (unhide P0).below hlb
                      have lb := hM.lt
                      have OF := hide (fun (x : Nat) (hx : x < 9) => hM.of x hx)
                      clear hM
                      have CI := hide (Img.checkPart_iff (m := m) (p := m.part n p) (st := m.stamp n))
                      obtain ⟨x, hx⟩ : ∃ x : Int, x = m.part n p := ⟨_, rfl⟩
                      rw [← hx] at cp NP BP CI
                      clear hx
                      by_cases e : x = -1
                      · have W := hide (unhide NP ((unhide CI).2 (.inl e)))
                        subst e
                        clear NP BP CI OF
                        go_wp2_with fail
                        try (go_quiet (fail); go_wp2_with fail)
                        go_roundw
                        case rel => exact ⟨p + 1, by omega, by go_num, by first | exact P0 | exact hide ((unhide P0).draw _), W⟩
                        case measure => simp [intOf]; omega
                      · have e2 : (x == -1) = false := by simpa using e
                        have e3 : (x != -1) = true := by simpa using e
                        have e4 : decide (x = -1) = false := by simpa using e
                        by_cases h0 : x < 0
                        · have d1 : decide (x < 0) = true := by simpa using h0
                          have Z := hide (unhide BP 1 (by decide) (Img.cp_1 e (by simp [Img.isD]; omega)))
                          clear h0 NP BP CI OF
                          go_wp2_with fail
                          try (go_quiet (fail); go_wp2_with fail)
                          go_ret
                          exact ⟨eqNo (unhide Z), by first | exact (unhide P0).below | exact belowN ((unhide P0).below)⟩
                        · have d1 : decide (x < 0) = false := by simpa using h0
                          by_cases h9 : 9 ≤ x
                          · have d2 : decide (9 ≤ x) = true := by simpa using h9
                            have d3 : decide (x ≥ 9) = true := by simpa using h9
                            have Z := hide (unhide BP 1 (by decide) (Img.cp_1 e (by simp [Img.isD]; omega)))
                            clear h0 h9 NP BP CI OF
                            go_wp2_with fail
                            try (go_quiet (fail); go_wp2_with fail)
                            go_ret
                            exact ⟨eqNo (unhide Z), by first | exact (unhide P0).below | exact belowN ((unhide P0).below)⟩
                          · have d2 : decide (9 ≤ x) = false := by simpa using h9
                            have d3 : decide (x ≥ 9) = false := by simpa using h9
                            obtain ⟨kx, rfl⟩ := Int.eq_ofNat_of_zero_le (show 0 ≤ x by omega)
                            have hk9 : kx < 9 := by omega
                            have o1 := unhide OF kx hk9
                            clear h0 h9 OF
                            by_cases hst : m.of kx = m.stamp n
                            · have W := hide (unhide NP ((unhide CI).2 (.inr ⟨by simp [Img.isD]; omega, by rw [Int.toNat_natCast]; exact hst⟩)))
                              rw [hst] at o1
                              clear hst NP BP CI
                              go_wp2_with fail
                              try (go_quiet (fail); go_wp2_with fail)
                              go_roundw
                              case rel => exact ⟨p + 1, by omega, by go_num, by first | exact P0 | exact hide ((unhide P0).draw _), W⟩
                              case measure => simp [intOf]; omega
                            · have Z := hide (unhide BP 10 (by decide) (Img.cp_10 e (by simp [Img.isD]; omega) (by rw [Int.toNat_natCast]; exact hst)))
                              have f1 : (m.of kx == m.stamp n) = false := by simpa using hst
                              have f2 : (m.of kx != m.stamp n) = true := by simpa using hst
                              have f3 : decide (m.of kx = m.stamp n) = false := by simpa using hst
                              clear NP BP CI
                              go_wp2_with fail
                              try (go_quiet (fail); go_wp2_with fail)
                              go_ret
                              exact ⟨eqNo (unhide Z), by first | exact (unhide P0).below | exact belowN ((unhide P0).below)⟩
                    · have v2 : decide ((p : Int) < 2) = false := by simp; omega
                      have ep : p = 2 := by omega
                      subst ep
                      have W := hide (unhide NN (Img.checkInode_live (unhide HL) (unhide H1) (unhide H2) (unhide HP)))
                      go_wp2_with fail
                      go_roundw
                      case rel => exact ⟨n + 1, by omega, by go_num, hide (unhide P0).below, W⟩
                      case measure => simp [intOf]; omega
        · have t8 : decide ((n : Int) < 8) = false := by simp; omega
          have en : n = 8 := by omega
          subst en
          have FN := HN
          clear HN
          go_wp2_with fail
          go_loopw [10] (fun i wr => ∃ n : Nat, n ≤ 8 ∧ i = .int .i64 n ∧ Hid (Below w.heap.size w wr) ∧ Hid (∀ j, j < n → ∀ k, k < 8 → Img.PairOk m j k)) (fun i _ => 8 - (intOf i).toNat)
          case atStart => exact ⟨0, by omega, rfl, HB, hide fun j hj => by omega⟩
          case round =>
            clear HB
            obtain ⟨n, hn, rfl, HB, HN⟩ := hrel
            by_cases hln : n < 8
            · have t8 : decide ((n : Int) < 8) = true := by simp; omega
              have NN := hide (fun (h : ∀ k, k < 8 → Img.PairOk m n k) => all_succ' (unhide HN) h)
              clear HN
              go_wp2_with fail
              go_loopw [11] (fun i wr => ∃ k : Nat, k ≤ 8 ∧ i = .int .i64 k ∧ Hid (Below w.heap.size w wr) ∧ Hid (∀ j, j < k → Img.PairOk m n j)) (fun i _ => 8 - (intOf i).toNat)
              case atStart => exact ⟨0, by omega, rfl, HB, hide fun j hj => by omega⟩
              case round =>
                as_aux_lemma =>
                  clear HB
                  obtain ⟨k, hk, rfl, HB, HK⟩ := hrel
                  by_cases hlk : k < 8
                  · have s8 : decide ((k : Int) < 8) = true := by simp; omega
                    have NK := hide (fun (h : Img.PairOk m n k) => all_succ' (unhide HK) h)
                    clear HK
                    have hM := (unhide HM).below (unhide HB) hlb
                    have lb := hM.lt
                    have a0 := hM.live n hln
                    have a1 := hM.stamp n hln
                    have b0 := hM.live k hlk
                    have b1 := hM.stamp k hlk
                    clear hM
                    cases h1 : m.live n
                    · rw [h1] at a0
                      have W := hide (unhide NK (Img.pair_dead (.inl h1)))
                      go_wp2_with fail
                      try (go_quiet (fail); go_wp2_with fail)
                      go_roundw
                      case rel => exact ⟨k + 1, by omega, by go_num, by first | exact HB | exact hide (belowN (unhide HB)), W⟩
                      case measure => simp [intOf]; omega
                    · rw [h1] at a0
                      cases h2 : m.live k
                      · rw [h2] at b0
                        have W := hide (unhide NK (Img.pair_dead (.inr h2)))
                        go_wp2_with fail
                        try (go_quiet (fail); go_wp2_with fail)
                        go_roundw
                        case rel => exact ⟨k + 1, by omega, by go_num, by first | exact HB | exact hide (belowN (unhide HB)), W⟩
                        case measure => simp [intOf]; omega
                      · rw [h2] at b0
                        have L1 := hide h1
                        have L2 := hide h2
                        clear h1 h2
                        by_cases e : n = k
                        · subst e
                          go_wp2_with fail
                          go_quiet (fail)
                          go_wp2_with fail
                          go_loopw [12] (fun i wx => ∃ p : Nat, p ≤ 2 ∧ i = .int .i64 p ∧ Hid (Below w.heap.size w wx) ∧ Hid (∀ j, j < p → ∀ q, q < 2 → Img.TwoOk m n n j q)) (fun i _ => 2 - (intOf i).toNat)
                          case atStart => exact ⟨0, by omega, rfl, by first | exact HB | exact hide (belowN (unhide HB)), hide fun j hj => by omega⟩
                          case round =>
                            clear HB a0 a1 b0 b1
                            obtain ⟨p, hp, rfl, HB, HP⟩ := hrel
                            by_cases hlp : p < 2
                            · have v2 : decide ((p : Int) < 2) = true := by simp; omega
                              have NP := hide (fun (h : ∀ q, q < 2 → Img.TwoOk m n n p q) => all_succ' (unhide HP) h)
                              clear HP
                              go_wp2_with fail
                              go_loopw [13] (fun i wx => ∃ q : Nat, q ≤ 2 ∧ i = .int .i64 q ∧ Hid (Below w.heap.size w wx) ∧ Hid (∀ j, j < q → Img.TwoOk m n n p j)) (fun i _ => 2 - (intOf i).toNat)
                              case atStart => exact ⟨0, by omega, rfl, HB, hide fun j hj => by omega⟩
                              case round =>
                                clear HB
                                obtain ⟨q, hq, rfl, HB, HQ⟩ := hrel
                                by_cases hlq : q < 2
                                · have v3 : decide ((q : Int) < 2) = true := by simp; omega
                                  have NQ := hide (fun (h : Img.TwoOk m n n p q) => all_succ' (unhide HQ) h)
                                  clear HQ
                                  have hM := (unhide HM).below (unhide HB) hlb
                                  have lb := hM.lt
                                  have x1 := hM.part n p hln hlp
                                  have x2 := hM.part n q hln hlq
                                  clear hM
                                  by_cases f : p = q
                                  · have W := hide (unhide NQ (fun _ _ z => absurd f (by rcases z with z | z; exact absurd rfl z; exact z)))
                                    subst f
                                    go_wp2_with fail
                                    try (go_quiet (fail); go_wp2_with fail)
                                    go_roundw
                                    case rel => exact ⟨p + 1, by omega, by go_num, by first | exact HB | exact hide (belowN (unhide HB)), W⟩
                                    case measure => simp [intOf]; omega
                                  · have f9 := f
                                    have f2 : ((p : Int) == (q : Int)) = false := by simp; omega
                                    have f3 : (p == q) = false := by simpa using f
                                    have f4 : ((p : Int) != (q : Int)) = true := by simp; omega
                                    have f5 : decide ((p : Int) = (q : Int)) = false := by simp; omega
                                    have f6 : ¬ ((p : Int) = (q : Int)) := by omega
                                    by_cases h0 : 0 ≤ m.part n p
                                    · have d0 : decide (0 ≤ m.part n p) = true := by simpa using h0
                                      have d1 : decide (m.part n p ≥ 0) = true := by simpa using h0
                                      cases he : (m.part n p == m.part n q)
                                      · have W := hide (unhide NQ (fun _ _ _ _ z => by rw [z] at he; simp at he))
                                        clear h0
                                        go_wp2_with fail
                                        try (go_quiet (fail); go_wp2_with fail)
                                        go_roundw
                                        case rel => exact ⟨q + 1, by omega, by go_num, by first | exact HB | exact hide (belowN (unhide HB)), W⟩
                                        case measure => simp [intOf]; omega
                                      · have Z := hide (Img.twice_11 (unhide FS) (unhide FN) (Img.bad_part hln hln hlp hlq (unhide L1) (unhide L2) (.inr f) h0 (by simpa using he)))
                                        clear h0
                                        go_wp2_with fail
                                        try (go_quiet (fail); go_wp2_with fail)
                                        go_ret
                                        exact ⟨eqNo (unhide Z), by first | exact unhide HB | exact belowN (unhide HB)⟩
                                    · have d0 : decide (0 ≤ m.part n p) = false := by simpa using h0
                                      have d1 : decide (m.part n p ≥ 0) = false := by simpa using h0
                                      have W := hide (unhide NQ (fun _ _ _ z => absurd z h0))
                                      clear h0
                                      go_wp2_with fail
                                      try (go_quiet (fail); go_wp2_with fail)
                                      go_roundw
                                      case rel => exact ⟨q + 1, by omega, by go_num, by first | exact HB | exact hide (belowN (unhide HB)), W⟩
                                      case measure => simp [intOf]; omega
                                · have v3 : decide ((q : Int) < 2) = false := by simp; omega
                                  have eq : q = 2 := by omega
                                  subst eq
                                  have W := hide (unhide NP (unhide HQ))
                                  go_wp2_with fail
                                  go_roundw
                                  case rel => exact ⟨p + 1, by omega, by go_num, HB, W⟩
                                  case measure => simp [intOf]; omega
                            · have v2 : decide ((p : Int) < 2) = false := by simp; omega
                              have ep : p = 2 := by omega
                              subst ep
                              have W := hide (unhide NK ⟨fun _ _ z => absurd rfl z, unhide HP⟩)
                              go_wp2_with fail
                              go_roundw
                              case rel => exact ⟨n + 1, by omega, by go_num, HB, W⟩
                              case measure => simp [intOf]; omega
                        · have e9 := e
                          have e2 : ((n : Int) == (k : Int)) = false := by simp; omega
                          have e3 : (n == k) = false := by simpa using e
                          have e4 : ((n : Int) != (k : Int)) = true := by simp; omega
                          have e5 : decide ((n : Int) = (k : Int)) = false := by simp; omega
                          have e6 : ¬ ((n : Int) = (k : Int)) := by omega
                          cases h3 : (m.stamp n == m.stamp k)
                          · have SO := hide (show Img.StampOk m n k from fun _ _ _ => by simpa using h3)
                            go_wp2_with fail
                            go_quiet (fail)
                            go_wp2_with fail
                            go_loopw [12] (fun i wx => ∃ p : Nat, p ≤ 2 ∧ i = .int .i64 p ∧ Hid (Below w.heap.size w wx) ∧ Hid (∀ j, j < p → ∀ q, q < 2 → Img.TwoOk m n k j q)) (fun i _ => 2 - (intOf i).toNat)
                            case atStart => exact ⟨0, by omega, rfl, by first | exact HB | exact hide (belowN (unhide HB)), hide fun j hj => by omega⟩
                            case round =>
                              clear HB a0 a1 b0 b1
                              obtain ⟨p, hp, rfl, HB, HP⟩ := hrel
                              by_cases hlp : p < 2
                              · have v2 : decide ((p : Int) < 2) = true := by simp; omega
                                have NP := hide (fun (h : ∀ q, q < 2 → Img.TwoOk m n k p q) => all_succ' (unhide HP) h)
                                clear HP
                                go_wp2_with fail
                                go_loopw [13] (fun i wx => ∃ q : Nat, q ≤ 2 ∧ i = .int .i64 q ∧ Hid (Below w.heap.size w wx) ∧ Hid (∀ j, j < q → Img.TwoOk m n k p j)) (fun i _ => 2 - (intOf i).toNat)
                                case atStart => exact ⟨0, by omega, rfl, HB, hide fun j hj => by omega⟩
                                case round =>
                                  clear HB
                                  obtain ⟨q, hq, rfl, HB, HQ⟩ := hrel
                                  by_cases hlq : q < 2
                                  · have v3 : decide ((q : Int) < 2) = true := by simp; omega
                                    have NQ := hide (fun (h : Img.TwoOk m n k p q) => all_succ' (unhide HQ) h)
                                    clear HQ
                                    have hM := (unhide HM).below (unhide HB) hlb
                                    have lb := hM.lt
                                    have x1 := hM.part n p hln hlp
                                    have x2 := hM.part k q hlk hlq
                                    clear hM
                                    by_cases h0 : 0 ≤ m.part n p
                                    · have d0 : decide (0 ≤ m.part n p) = true := by simpa using h0
                                      have d1 : decide (m.part n p ≥ 0) = true := by simpa using h0
                                      cases he : (m.part n p == m.part k q)
                                      · have W := hide (unhide NQ (fun _ _ _ _ z => by rw [z] at he; simp at he))
                                        clear h0
                                        go_wp2_with fail
                                        try (go_quiet (fail); go_wp2_with fail)
                                        go_roundw
                                        case rel => exact ⟨q + 1, by omega, by go_num, by first | exact HB | exact hide (belowN (unhide HB)), W⟩
                                        case measure => simp [intOf]; omega
                                      · have Z := hide (Img.twice_11 (unhide FS) (unhide FN) (Img.bad_part hln hlk hlp hlq (unhide L1) (unhide L2) (.inl e) h0 (by simpa using he)))
                                        clear h0
                                        go_wp2_with fail
                                        try (go_quiet (fail); go_wp2_with fail)
                                        go_ret
                                        exact ⟨eqNo (unhide Z), by first | exact unhide HB | exact belowN (unhide HB)⟩
                                    · have d0 : decide (0 ≤ m.part n p) = false := by simpa using h0
                                      have d1 : decide (m.part n p ≥ 0) = false := by simpa using h0
                                      have W := hide (unhide NQ (fun _ _ _ z => absurd z h0))
                                      clear h0
                                      go_wp2_with fail
                                      try (go_quiet (fail); go_wp2_with fail)
                                      go_roundw
                                      case rel => exact ⟨q + 1, by omega, by go_num, by first | exact HB | exact hide (belowN (unhide HB)), W⟩
                                      case measure => simp [intOf]; omega
                                  · have v3 : decide ((q : Int) < 2) = false := by simp; omega
                                    have eq : q = 2 := by omega
                                    subst eq
                                    have W := hide (unhide NP (unhide HQ))
                                    go_wp2_with fail
                                    go_roundw
                                    case rel => exact ⟨p + 1, by omega, by go_num, HB, W⟩
                                    case measure => simp [intOf]; omega
                              · have v2 : decide ((p : Int) < 2) = false := by simp; omega
                                have ep : p = 2 := by omega
                                subst ep
                                have W := hide (unhide NK ⟨unhide SO, unhide HP⟩)
                                go_wp2_with fail
                                go_roundw
                                case rel => exact ⟨k + 1, by omega, by go_num, HB, W⟩
                                case measure => simp [intOf]; omega
                          · have Z := hide (Img.twice_11 (unhide FS) (unhide FN) (Img.bad_stamp hln hlk (unhide L1) (unhide L2) e (by simpa using h3)))
                            go_wp2_with fail
                            try (go_quiet (fail); go_wp2_with fail)
                            go_ret
                            exact ⟨eqNo (unhide Z), by first | exact unhide HB | exact belowN (unhide HB)⟩
                  · have s8 : decide ((k : Int) < 8) = false := by simp; omega
                    have ek : k = 8 := by omega
                    subst ek
                    have W := hide (unhide NN (unhide HK))
                    go_wp2_with fail
                    go_roundw
                    case rel => exact ⟨n + 1, by omega, by go_num, HB, W⟩
                    case measure => simp [intOf]; omega
            · have t8 : decide ((n : Int) < 8) = false := by simp; omega
              have en : n = 8 := by omega
              subst en
              go_wp2_with fail
              go_ret
              exact ⟨eqNo (Img.fault_end (unhide FS) (unhide FN) (unhide HN)), unhide HB⟩
end Go.Proofs.YtlbgkpibaahgladDoor
