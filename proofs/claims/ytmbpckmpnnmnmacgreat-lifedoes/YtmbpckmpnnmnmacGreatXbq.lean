/-
  The reference's (*Bed).List. (Written by genfi.py.)
-/
import Derived.Test.YtmbpckmpnnmnmacGreatZz
import Derived.Test.YtmbpckmpnnmnmacGreatXaw
import Derived.Test.YtmbpckmpnnmnmacGreatXbo
import Derived.Test.YtmbpckmpnnmnmacGreatXbp
namespace Go.Proofs.YtmbpckmpnnmnmacGreat
open Go.RowKit
open Idl (Stp chk stpA strs Tg)
theorem HasAt.blk {w w' : World} {b o : Nat} {m : Img} (h : HasAt w b o m) (e : w'.heap[b]? = w.heap[b]?) : HasAt w' b o m := by
  have hc : ∀ j, w'.cell? ⟨b, j, none⟩ = w.cell? ⟨b, j, none⟩ := fun j => World.cell?_of_block e
  have hl : b < w'.heap.size := by
    have h1 := Array.getElem?_eq_getElem h.lt
    rw [← e] at h1
    exact (Array.getElem?_eq_some_iff.1 h1).1
  exact ⟨hl, fun n h1 => by rw [hc]; exact h.live n h1, fun n h1 => by rw [hc]; exact h.stamp n h1, fun n h1 => by rw [hc]; exact h.links n h1,
    fun n p h1 h2 => by rw [hc]; exact h.part n p h1 h2, fun d s h1 h2 => by rw [hc]; exact h.name d s h1 h2, fun d s h1 h2 => by rw [hc]; exact h.ino d s h1 h2,
    fun d s h1 h2 => by rw [hc]; exact h.est d s h1 h2, fun x h1 => by rw [hc]; exact h.of x h1, fun x h1 => by rw [hc]; exact h.text x h1, h.small, h.short⟩
namespace Idl
/-- the tags that List lays: the names of the slots so far -/
def btags (m : Img) (d s : Nat) : List Tg := (Img.rawN m d s).map fun nm => ⟨(d : Int), nm, 0⟩
theorem btags_yes {m : Img} {d s : Nat} (h : m.named d s = true) : btags m d (s + 1) = btags m d s ++ [⟨(d : Int), m.name d s, 0⟩] := by
  unfold btags
  rw [show Img.rawN m d (s + 1) = Img.rawN m d s ++ (if m.named d s then [m.name d s] else []) from rfl, if_pos h, List.map_append]; rfl
theorem btags_no {m : Img} {d s : Nat} (h : m.named d s = false) : btags m d (s + 1) = btags m d s := by
  unfold btags
  rw [show Img.rawN m d (s + 1) = Img.rawN m d s ++ (if m.named d s then [m.name d s] else []) from rfl, h]
  simp
theorem btags_len (m : Img) (d s : Nat) : (btags m d s).length ≤ s := by
  unfold btags; rw [List.length_map]; exact Img.rawN_len m d s
theorem btags_names {m : Img} (hm : m.check = 0) {d : Nat} (hd : d < 3) : namesOf (btags m d 4) (d : Int) [] = Img.snames m (d : Int) := by
  have nd := Img.rawN_nodup hm hd (Nat.le_refl 4)
  obtain ⟨h1, h2⟩ := namesOf_ok (btags m d 4) (d : Int) [] List.Pairwise.nil (by
    unfold btags
    rw [List.pairwise_map]
    exact nd.imp (fun h z => h z.2)) (fun _ _ _ hz => by cases hz)
  unfold Img.snames
  rw [if_pos (by omega), Int.toNat_natCast]
  refine riseN_ext h1 (sortN_rise nd) (fun s => ?_)
  rw [h2, sortN_mem nd]
  unfold btags
  constructor
  · rintro (z | ⟨t, ht, _, rfl⟩)
    · cases z
    · obtain ⟨nm, hn, rfl⟩ := List.mem_map.1 ht
      exact hn
  · intro z
    exact .inr ⟨_, List.mem_map.2 ⟨s, z, rfl⟩, rfl, rfl⟩
theorem IRaw.rd0 {w : World} {b : Nat} {l : List Tg} {ta : Option Addr} {tc : Nat} (h : IRaw w b l 0 St.empty (.slice ta l.length tc) (.slice none 0 0)) (h1 : l.length ≤ 1000000) : IRd w b St.empty l ta none tc 0 := by
  refine ⟨h.blt, ?_, ?_, h1, Nat.zero_le _, fun i hi => ?_, fun i hi => absurd hi (Nat.not_lt_zero i)⟩
  · rw [cell_of_row w b 0 _ _ _ h.root]; rfl
  · rw [cell_of_row w b 1 _ _ _ h.root]; rfl
  · obtain ⟨g, cap, e, hg, hc⟩ := row_cell h.rowT (by omega)
    simp only [Value.slice.injEq] at e
    have hat := flat_at tagC_len l i hi
    refine ⟨g, 0, e.1, hg, hc _ _ ?_, hc _ _ ?_, hc _ _ ?_⟩
    · rw [Nat.zero_add]; exact hat 0 (by omega)
    · rw [Nat.zero_add]; exact hat 1 (by omega)
    · rw [Nat.zero_add]; exact hat 2 (by omega)
theorem IRaw.new0 (w : World) : IRaw (w.alloc (.cells #[.slice none 0 0, .slice none 0 0] 87)) w.heap.size [] 0 St.empty (.slice none 0 0) (.slice none 0 0) :=
  ⟨heap_alloc_new w _, World.ownsRow_nil _ _ _ _, World.ownsRow_nil _ _ _ _, fun h => (by cases h), fun h => (by cases h), fun k h => (by cases h)⟩
set_option maxHeartbeats 4000000 in
set_option maxRecDepth 100000 in
theorem bList_any {g : Nat} {m : Img} (w : World) (hm : HasAt w g 0 m) (hok : m.check = 0) (d : Int) :
    Calls Tryz.prog 23 #[.pointer (some ⟨g, 0, none⟩), .int .i64 d] w fun e w' => ∃ v, e = .returned v ∧ w'.ownsRow w.heap.size 9 1 v (Img.snames m d).length (strs (Img.snames m d)) ∧ Below w.heap.size w w' := by
  have B0 := hide (show Below w.heap.size w (w.alloc (.cells #[.slice none 0 0, .slice none 0 0] 87)) from (Below.refl _ w).alloc (Nat.le_refl _) _)
  by_cases hd : 0 ≤ d ∧ d < 3
  case neg =>
    have e0 : Img.snames m d = [] := by unfold Img.snames; rw [if_neg hd]
    rw [e0]
    by_cases h0 : d < 0
    · have t0 : decide (d < 0) = true := by simpa using h0
      clear hd e0 hm hok
      go_enter Tryz.func23, Tryz.ntmps23
      go_wp2_with fail
      go_ret
      exact ⟨_, rfl, World.ownsRow_nil _ _ _ _, unhide B0⟩
    · have t0 : decide (d < 0) = false := by simpa using h0
      have t3 : decide (3 ≤ d) = true := by simp; omega
      clear hd e0 hm hok h0
      go_enter Tryz.func23, Tryz.ntmps23
      go_wp2_with fail
      go_ret
      exact ⟨_, rfl, World.ownsRow_nil _ _ _ _, unhide B0⟩
  obtain ⟨d, rfl⟩ := Int.eq_ofNat_of_zero_le hd.1
  have hd3 : d < 3 := by omega
  have t0 : decide ((d : Int) < 0) = false := by simp
  have t3 : decide (3 ≤ (d : Int)) = false := by simp; omega
  have dz : (d : Int) < 3 := by omega
  obtain ⟨i0, zt, hi0, hz0, hz1, hz2, hz3⟩ := tag_info
  have NMS := hide (btags_names hok hd3)
  have R0 := hide (IRaw.new0 w)
  have HB := hide fun W (bW : Below w.heap.size w W) => hm.below bW hm.lt
  have GL := hide hm.lt
  clear hd hok hm
  go_enter Tryz.func23, Tryz.ntmps23
  go_wp2_with fail
  generalize hX : w.alloc (.cells #[.slice none 0 0, .slice none 0 0] 87) = X0 at *
  clear hX
  obtain ⟨b, hb⟩ : ∃ b, b = w.heap.size := ⟨_, rfl⟩
  rw [← hb] at R0 ⊢
  have HBB := hide hb
  clear hb
  go_loopw [6] (fun i wr => ∃ (s : Nat) (vt : Value), s ≤ 4 ∧ i = .int .i64 s ∧ Hid (IRaw wr b (btags m d s) 0 St.empty vt (.slice none 0 0)) ∧ Hid (∀ k, vt.ownBlock = some k → w.heap.size ≤ k) ∧ Hid (Below w.heap.size w wr)) (fun i _ => 4 - (intOf i).toNat)
  case atStart => exact ⟨0, .slice none 0 0, by omega, rfl, R0, hide (fun k hk => by cases hk), B0⟩
  case round =>
    clear R0 B0
    obtain ⟨s, vt, hs, rfl, RW, OW, BW⟩ := hrel
    by_cases hlt : s < 4
    case neg =>
      have t4 : decide ((s : Int) < 4) = false := by simp; omega
      have e4 : s = 4 := by omega
      subst e4
      obtain ⟨ta, tc, hvt, _⟩ := own_form (unhide RW).rowT
      rw [hvt] at RW
      clear hvt OW
      have C1 := hide (rList_any (by have := btags_len m d 4; omega) (d : Int) wr ((unhide RW).rd0 (by have := btags_len m d 4; omega)))
      rw [unhide NMS] at C1
      go_wp2_with fail
      refine (unhide C1).mono ?_
      rintro e w1 ⟨v, rfl, ho, b1⟩
      have HO := hide (show w1.ownsRow w.heap.size 9 1 v (Img.snames m (d : Int)).length (strs (Img.snames m (d : Int))) from ⟨ho.1, ho.2.imp id (fun ⟨g0, cp, cu, a1, a2, a3⟩ => ⟨g0, cp, cu, a1, Nat.le_trans (unhide BW).size a2, a3⟩)⟩)
      have B1 := hide ((unhide BW).trans (b1.mono (unhide BW).size))
      clear ho b1 C1
      go_wp2_with fail
      go_ret
      exact ⟨_, rfl, unhide HO, unhide B1⟩
    have t4 : decide ((s : Int) < 4) = true := by simp; omega
    have sz : (s : Int) < 4 := by omega
    have c1 : wr.cell? ⟨g, 40 + d * 12 + s * 3, none⟩ = some (.string (m.name d s)) := by
      have := (unhide HB _ (unhide BW)).name d s hd3 hlt
      simpa using this
    cases hq : (m.name d s).toList.isEmpty
    case true =>
      have NO := hide (btags_no (m := m) (d := d) (s := s) (by unfold Img.named; rw [hq]; rfl))
      have hnl : (m.name d s).toList = [] := by simpa using hq
      go_wp2_with fail
      go_roundw
      case rel => exact ⟨s + 1, vt, by omega, by go_num, by rw [unhide NO]; exact RW, OW, BW⟩
      case measure => simp [intOf]; omega
    have YES := hide (btags_yes (m := m) (d := d) (s := s) (by unfold Img.named; rw [hq]; rfl))
    obtain ⟨ta, tc, hvt, _⟩ := own_form (unhide RW).rowT
    subst hvt
    have HW0 := hide ((unhide RW).below (Below.refl _ wr).drew)
    have BD := hide (unhide BW).drew
    have HSM := hide (show (m.name d s).size ≤ maxLen from (unhide HB _ (unhide BW)).small d s)
    have LN := hide (btags_len m d s)
    have HGT := hide (show (Value.slice ta (btags m d s).length tc).ownBlock ≠ some g from fun e => by have := unhide OW g e; have := unhide GL; omega)
    have NB := hide (show b ≠ g by have := unhide GL; have := unhide HBB; omega)
    generalize btags m d s = l at HW0 LN YES OW RW HGT ⊢
    go_wp2_with fail
    refine wp_region_J (S := fun W' => HasAt W' g 0 m ∧ W'.cell? ⟨b, 0, none⟩ = some (.slice ta l.length tc)) 21 (by kernel_rfl) (⟨unhide HB _ (unhide BD), by rw [cell_of_row _ _ 0 _ _ _ (unhide HW0).root]; rfl⟩) (fun hS => ?_)
    refine wpAnyJ_take (i := 0) (oi := ⟨some 30, .move (.tmp 5), 83, "base.go:660", #[], none⟩) (v := .pointer (some ⟨b, 0, none⟩)) rfl (by kernel_rfl) (by kernel_rfl) (by kernel_rfl) (by kernel_rfl) (fun _ _ _ h => h) (Or.inl ⟨by kernel_rfl, fun W h => (by first | kernel_rfl | go_simp)⟩) hS ?_
    try simp only [Act.put, z1, z2, z3]
    refine wpAnyJ_take (i := 1) (oi := ⟨some 31, .move (.tmp 5), 83, "base.go:660", #[], none⟩) (v := .pointer (some ⟨b, 0, none⟩)) rfl (by kernel_rfl) (by kernel_rfl) (by kernel_rfl) (by kernel_rfl) (fun _ _ _ h => h) (Or.inl ⟨by kernel_rfl, fun W h => (by first | kernel_rfl | go_simp)⟩) hS ?_
    try simp only [Act.put, z1, z2, z3]
    refine wpAnyJ_take (i := 2) (oi := ⟨some 32, .nilCheck (.tmp 31), 0, "base.go:660", #[⟨1, .data⟩], none⟩) (v := .pointer (some ⟨b, 0, none⟩)) rfl (by kernel_rfl) (by kernel_rfl) (by kernel_rfl) (by kernel_rfl) (fun _ _ _ h => h) (Or.inl ⟨by kernel_rfl, fun W h => (by first | kernel_rfl | go_simp)⟩) hS ?_
    try simp only [Act.put, z1, z2, z3]
    refine wpAnyJ_take (i := 3) (oi := ⟨some 33, .fieldAddr 87 (.tmp 32) 0, 0, "base.go:660", #[⟨2, .data⟩], none⟩) (v := .pointer (some ⟨b, 0, none⟩)) rfl (by kernel_rfl) (by kernel_rfl) (by kernel_rfl) (by kernel_rfl) (fun _ _ _ h => h) (Or.inl ⟨by kernel_rfl, fun W h => (by first | kernel_rfl | go_simp)⟩) hS ?_
    try simp only [Act.put, z1, z2, z3]
    refine wpAnyJ_take (i := 4) (oi := ⟨some 34, .load 84 (.tmp 33), 84, "base.go:660", #[⟨3, .data⟩], none⟩) (v := .slice ta l.length tc) rfl (by kernel_rfl) (by kernel_rfl) (by kernel_rfl) (by kernel_rfl) (fun _ _ _ h => h) (Or.inl ⟨by kernel_rfl, fun W h => run_ld_slT (.tmp 33) (by kernel_rfl) (by kernel_rfl) W h.2⟩) hS ?_
    try simp only [Act.put, z1, z2, z3]
    refine wpAnyJ_take (i := 5) (oi := ⟨some 35, .move (.tmp 1), 3, "base.go:660", #[], none⟩) (v := .int .i64 (d : Int)) rfl (by kernel_rfl) (by kernel_rfl) (by kernel_rfl) (by kernel_rfl) (fun _ _ _ h => h) (Or.inl ⟨by kernel_rfl, fun W h => (by first | kernel_rfl | go_simp)⟩) hS ?_
    try simp only [Act.put, z1, z2, z3]
    refine wpAnyJ_take (i := 6) (oi := ⟨some 36, .move (.tmp 0), 27, "base.go:660", #[], none⟩) (v := .pointer (some ⟨g, 0, none⟩)) rfl (by kernel_rfl) (by kernel_rfl) (by kernel_rfl) (by kernel_rfl) (fun _ _ _ h => h) (Or.inl ⟨by kernel_rfl, fun W h => (by first | kernel_rfl | go_simp)⟩) hS ?_
    try simp only [Act.put, z1, z2, z3]
    refine wpAnyJ_take (i := 7) (oi := ⟨some 37, .move (.tmp 1), 3, "base.go:660", #[], none⟩) (v := .int .i64 (d : Int)) rfl (by kernel_rfl) (by kernel_rfl) (by kernel_rfl) (by kernel_rfl) (fun _ _ _ h => h) (Or.inl ⟨by kernel_rfl, fun W h => (by first | kernel_rfl | go_simp)⟩) hS ?_
    try simp only [Act.put, z1, z2, z3]
    refine wpAnyJ_take (i := 8) (oi := ⟨some 38, .move (.tmp 6), 3, "base.go:660", #[], none⟩) (v := .int .i64 (s : Int)) rfl (by kernel_rfl) (by kernel_rfl) (by kernel_rfl) (by kernel_rfl) (fun _ _ _ h => h) (Or.inl ⟨by kernel_rfl, fun W h => (by first | kernel_rfl | go_simp)⟩) hS ?_
    try simp only [Act.put, z1, z2, z3]
    refine wpAnyJ_take (i := 9) (oi := ⟨some 39, .nilCheck (.tmp 36), 0, "base.go:660", #[⟨6, .data⟩], none⟩) (v := .pointer (some ⟨g, 0, none⟩)) rfl (by kernel_rfl) (by kernel_rfl) (by kernel_rfl) (by kernel_rfl) (fun _ _ _ h => h) (Or.inl ⟨by kernel_rfl, fun W h => (by first | kernel_rfl | go_simp)⟩) hS ?_
    try simp only [Act.put, z1, z2, z3]
    refine wpAnyJ_take (i := 10) (oi := ⟨some 40, .fieldAddr 55 (.tmp 39) 0, 0, "base.go:660", #[⟨9, .data⟩], none⟩) (v := .pointer (some ⟨g, 0, none⟩)) rfl (by kernel_rfl) (by kernel_rfl) (by kernel_rfl) (by kernel_rfl) (fun _ _ _ h => h) (Or.inl ⟨by kernel_rfl, fun W h => (by first | kernel_rfl | go_simp)⟩) hS ?_
    try simp only [Act.put, z1, z2, z3]
    refine wpAnyJ_take (i := 11) (oi := ⟨some 41, .fieldAddr 44 (.tmp 40) 1, 0, "base.go:660", #[⟨10, .data⟩], none⟩) (v := .pointer (some ⟨g, 40, none⟩)) rfl (by kernel_rfl) (by kernel_rfl) (by kernel_rfl) (by kernel_rfl) (fun _ _ _ h => h) (Or.inl ⟨by kernel_rfl, fun W h => (by first | kernel_rfl | go_simp)⟩) hS ?_
    try simp only [Act.put, z1, z2, z3]
    refine wpAnyJ_take (i := 12) (oi := ⟨some 42, .indexAddr 39 (.tmp 41) (.tmp 37), 0, "base.go:660", #[⟨11, .data⟩, ⟨7, .data⟩], none⟩) (v := .pointer (some ⟨g, 40 + d * 12, none⟩)) rfl (by kernel_rfl) (by kernel_rfl) (by kernel_rfl) (by kernel_rfl) (fun _ _ _ h => h) (Or.inl ⟨by kernel_rfl, fun W h => Op1.ix_dir (.tmp 41) (.tmp 37) (by kernel_rfl) (by kernel_rfl) (by kernel_rfl) (hd3) W⟩) hS ?_
    try simp only [Act.put, z1, z2, z3]
    refine wpAnyJ_take (i := 13) (oi := ⟨some 43, .indexAddr 38 (.tmp 42) (.tmp 38), 0, "base.go:660", #[⟨12, .data⟩, ⟨8, .data⟩], none⟩) (v := .pointer (some ⟨g, 40 + d * 12 + s * 3, none⟩)) rfl (by kernel_rfl) (by kernel_rfl) (by kernel_rfl) (by kernel_rfl) (fun _ _ _ h => h) (Or.inl ⟨by kernel_rfl, fun W h => Op1.ix_slot (.tmp 42) (.tmp 38) (by kernel_rfl) (by kernel_rfl) (by kernel_rfl) (hlt) W⟩) hS ?_
    try simp only [Act.put, z1, z2, z3]
    refine wpAnyJ_take (i := 14) (oi := ⟨some 44, .fieldAddr 37 (.tmp 43) 0, 0, "base.go:660", #[⟨13, .data⟩], none⟩) (v := .pointer (some ⟨g, 40 + d * 12 + s * 3, none⟩)) rfl (by kernel_rfl) (by kernel_rfl) (by kernel_rfl) (by kernel_rfl) (fun _ _ _ h => h) (Or.inl ⟨by kernel_rfl, fun W h => (by first | kernel_rfl | go_simp)⟩) hS ?_
    try simp only [Act.put, z1, z2, z3]
    refine wpAnyJ_take (i := 15) (oi := ⟨some 45, .load 9 (.tmp 44), 9, "base.go:660", #[⟨14, .data⟩], none⟩) (v := .string (m.name d s)) rfl (by kernel_rfl) (by kernel_rfl) (by kernel_rfl) (by kernel_rfl) (fun _ _ _ h => h) (Or.inl ⟨by kernel_rfl, fun W h => Op1.ld_str (.tmp 44) (by kernel_rfl) (by kernel_rfl) W (by have := h.1.name d s hd3 hlt; rw [Nat.zero_add] at this; exact this)⟩) hS ?_
    try simp only [Act.put, z1, z2, z3]
    refine wpAnyJ_take (i := 16) (oi := ⟨some 46, .build 89 #[(0, .tmp 35), (1, .tmp 45), (2, .const (.int .i64 0))], 89, "base.go:660", #[⟨5, .data⟩, ⟨15, .data⟩], none⟩) (v := .agg #[.int .i64 (d : Int), .string (m.name d s), .int .i64 ((0 : Nat) : Int)]) rfl (by kernel_rfl) (by kernel_rfl) (by kernel_rfl) (by kernel_rfl) (fun _ _ _ h => h) (Or.inl ⟨by kernel_rfl, fun W h => (by first | kernel_rfl | go_simp)⟩) hS ?_
    try simp only [Act.put, z1, z2, z3]
    generalize World.drew _ = W0 at hS HW0 BD ⊢
    refine wpAnyJ_one (i := 17) (o := ⟨some 47, .buildSlice 84 1 #[(0, .tmp 46)], 84, "base.go:660", #[⟨16, .data⟩], none⟩) (by kernel_rfl) rfl (by kernel_rfl) (fun K hK => ?_)
    go_simp
    have hS1 : HasAt (W0.alloc (.cells #[.int .i64 (d : Int), .string (m.name d s), .int .i64 ((0 : Nat) : Int)] 89)) g 0 m ∧ (W0.alloc (.cells #[.int .i64 (d : Int), .string (m.name d s), .int .i64 ((0 : Nat) : Int)] 89)).cell? ⟨b, 0, none⟩ = some (.slice ta l.length tc) := ⟨hS.1.blk (heap_alloc_old _ _ hS.1.lt), (World.cell?_of_block (heap_alloc_old _ _ (unhide HW0).blt)).trans hS.2⟩
    refine hK.out _ _ (fun _ => hS1) ?_
    clear hK K
    try simp only [Act.put, z1, z2, z3]
    refine wpAnyJ_one (i := 18) (o := ⟨some 48, .call { callee := .builtin .append, args := #[.tmp 34, .tmp 47], argTypes := #[84, 84] }, 84, "base.go:660", #[⟨4, .data⟩, ⟨17, .data⟩], none⟩) (by kernel_rfl) rfl (by kernel_rfl) (fun K hK => ?_)
    refine wp_append_part (.tmp 34) (.tmp 47) (by kernel_rfl) Tryz.underlying84 hi0 hz0 hz1 hz2 hz3 (by omega) (by kernel_rfl) (World.ownsRow.alloc (unhide HW0).rowT _) (by kernel_rfl) (.inr ⟨⟨W0.heap.size, 0, none⟩, 1, rfl, rfl, row_new W0 [.int .i64 (d : Int), .string (m.name d s), .int .i64 ((0 : Nat) : Int)] 89⟩) (one_tag (d : Int) (m.name d s) 0) (by have := unhide LN; unfold maxLen; omega) (by have := unhide LN; omega) (by simp) ?_
    intro v' W2 ho hg ha
    obtain ⟨a', c', rfl, _⟩ := own_form ho
    have hS2 : HasAt W2 g 0 m ∧ W2.cell? ⟨b, 0, none⟩ = some (.slice ta l.length tc) := ⟨hS1.1.blk (hg.block g hS1.1.lt (fun e => unhide HGT e.symm)), (World.cell?_of_block (hg.block b (Nat.lt_of_lt_of_le (unhide HW0).blt (by simp)) (fun e => (unhide HW0).offT e.symm))).trans hS1.2⟩
    have RAW := hide (make_raw (unhide HW0) ho hg ha)
    have FRZ := hide (raw_frozen (unhide HW0) hg)
    refine hK.out _ _ (fun _ => hS2) ?_
    clear hK K ho hg ha
    try simp only [Act.put, z1, z2, z3]
    refine wpAnyJ_one (i := 19) (o := ⟨some 49, .nilCheck (.tmp 30), 0, "base.go:660", #[⟨0, .data⟩, ⟨0, .phase⟩, ⟨1, .phase⟩, ⟨2, .phase⟩, ⟨3, .phase⟩, ⟨4, .phase⟩, ⟨5, .phase⟩, ⟨6, .phase⟩, ⟨7, .phase⟩, ⟨8, .phase⟩, ⟨9, .phase⟩, ⟨10, .phase⟩, ⟨11, .phase⟩, ⟨12, .phase⟩, ⟨13, .phase⟩, ⟨14, .phase⟩, ⟨15, .phase⟩, ⟨16, .phase⟩, ⟨17, .phase⟩, ⟨18, .phase⟩], none⟩) (by kernel_rfl) rfl (by kernel_rfl) (fun K hK => ?_)
    go_simp
    refine hK.out _ _ (fun _ => hS2) ?_
    clear hK K
    try simp only [Act.put, z1, z2, z3]
    refine wpAnyJ_one (i := 20) (o := ⟨some 50, .fieldAddr 87 (.tmp 49) 0, 0, "base.go:660", #[⟨19, .data⟩, ⟨0, .phase⟩, ⟨1, .phase⟩, ⟨2, .phase⟩, ⟨3, .phase⟩, ⟨4, .phase⟩, ⟨5, .phase⟩, ⟨6, .phase⟩, ⟨7, .phase⟩, ⟨8, .phase⟩, ⟨9, .phase⟩, ⟨10, .phase⟩, ⟨11, .phase⟩, ⟨12, .phase⟩, ⟨13, .phase⟩, ⟨14, .phase⟩, ⟨15, .phase⟩, ⟨16, .phase⟩, ⟨17, .phase⟩, ⟨18, .phase⟩], none⟩) (by kernel_rfl) rfl (by kernel_rfl) (fun K hK => ?_)
    go_simp
    refine hK.out _ _ (fun _ => hS2) ?_
    clear hK K
    try simp only [Act.put, z1, z2, z3]
    refine wpAnyJ_one (i := 21) (o := ⟨none, .store 84 (.tmp 50) (.tmp 48), 0, "base.go:660", #[⟨20, .data⟩, ⟨18, .data⟩, ⟨18, .chain⟩, ⟨0, .phase⟩, ⟨1, .phase⟩, ⟨2, .phase⟩, ⟨3, .phase⟩, ⟨4, .phase⟩, ⟨5, .phase⟩, ⟨6, .phase⟩, ⟨7, .phase⟩, ⟨8, .phase⟩, ⟨9, .phase⟩, ⟨10, .phase⟩, ⟨11, .phase⟩, ⟨12, .phase⟩, ⟨13, .phase⟩, ⟨14, .phase⟩, ⟨15, .phase⟩, ⟨16, .phase⟩, ⟨17, .phase⟩, ⟨18, .phase⟩], none⟩) (by kernel_rfl) rfl (by kernel_rfl) (fun K hK => ?_)
    refine wp_st_slT (v := a') (n := l.length + 1) (c := c') (.tmp 50) (.tmp 48) (by kernel_rfl) rfl (by kernel_rfl) (by kernel_rfl) hS2.2 (unhide FRZ) ?_
    refine hK.out _ _ (fun h => absurd rfl h) ?_
    clear hK K
    try simp only [Act.put, z1, z2, z3]
    refine wpAnyJ_done (by kernel_rfl) ?_ _
    generalize W2.setCell ⟨b, 0, none⟩ (.slice a' (l.length + 1) c') = WB at RAW ⊢
    have B2 := hide ((unhide BD).trans ((unhide RAW).2.1.below (unhide BD).size (fun k hk => by
      rcases hk with rfl | hk | hk
      · have := unhide HBB; omega
      · exact unhide OW k hk
      · cases hk)))
    have OW2 := hide (show ∀ k, (Value.slice a' (l.length + 1) c').ownBlock = some k → w.heap.size ≤ k from fun k hk => by
      rcases (unhide RAW).2.2 k (.inr (.inl hk)) with (rfl | z | z) | z
      · have := unhide HBB; omega
      · exact unhide OW k z
      · cases z
      · exact Nat.le_trans (unhide BD).size z)
    have RW2 := hide (unhide RAW).1
    clear hS hS1 hS2 FRZ
    go_wp2_with fail
    go_roundw
    case rel => exact ⟨s + 1, _, by omega, by go_num, by rw [unhide YES]; exact RW2, OW2, B2⟩
    case measure => simp [intOf]; omega
end Idl
end Go.Proofs.YtmbpckmpnnmnmacGreat
