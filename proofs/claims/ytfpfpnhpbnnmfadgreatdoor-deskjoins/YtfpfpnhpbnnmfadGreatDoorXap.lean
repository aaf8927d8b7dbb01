/-
  The walks of package cache: Sync, first, Inode, Slot, Data.
-/
import Derived.Test.YtfpfpnhpbnnmfadGreatDoorXao
import Derived.Shelf.Abstract
import Derived.BigQuiet
import Derived.Test.YtfpfpnhpbnnmfadGreatDoorXah
import Derived.Test.YtfpfpnhpbnnmfadGreatDoorXad
import Derived.Laws.AppendOwn
import Derived.Deep.QuietTactic
import Derived.Deep.RegionWith
import Derived.Test.YtfpfpnhpbnnmfadGreatDoorXak
namespace Go.Proofs.YtfpfpnhpbnnmfadGreatDoor
open Go.RowKit
set_option maxRecDepth 100000 in
set_option maxHeartbeats 2000000 in
theorem cSync_any (g : Nat) (cs ds : Array Value) (m k : Img) (hi : IsImg cs m) (hj : IsImg ds k) (w : World) (hg : w.heap[g]? = some (.cells (cs ++ ds) 141)) :
    Calls Tryz.prog 79 #[.pointer (some ⟨g, 0, none⟩)] w fun e w' => ∃ es, e = .returned (.int .i64 ((Img.syn m 8 k).1 : Nat)) ∧ IsImg es (Img.syn m 8 k).2 ∧ Mut w w' g (cs ++ es) 141 := by
  have hgl : g < w.heap.size := (Array.getElem?_eq_some_iff.1 hg).1
  obtain ⟨R, hR⟩ : ∃ R, R = Img.syn m 8 k := ⟨_, rfl⟩
  rw [← hR]
  go_enter Tryz.func79, Tryz.ntmps79
  go_wp2_with fail
  go_loopw [3] (fun i wr => ∃ (r : Nat) (es : Array Value) (K : Img), r ≤ 8 ∧ i = .int .i64 r ∧ Hid (IsImg es K) ∧ Hid (Mut w wr g (cs ++ es) 141) ∧ Hid (R.1 = (Img.syn m (8 - r) K).1 + r ∧ R.2 = (Img.syn m (8 - r) K).2)) (fun i _ => 8 - (intOf i).toNat)
  case atStart => exact ⟨0, ds, k, by omega, rfl, hide hj, hide (Mut.refl' (Below.refl _ _) hgl hg), hide ⟨by rw [hR]; rfl, by rw [hR]⟩⟩
  case round =>
    obtain ⟨r, es, K, hr, rfl, HI, HM, HR⟩ := hrel
    by_cases hlt : r < 8
    · have t8 : decide ((r : Int) < 8) = true := by simp; omega
      go_wp2_with fail
      refine (clean_any g cs es m K hi (unhide HI) _ (unhide HM).row).mono ?_
      rintro e w1 ⟨rfl, hb1⟩
      have HM1 := hide ((unhide HM).call hgl hb1)
      clear HM hb1
      cases hc : Img.sameImg m K
      · go_wp2_with fail
        go_loopw [4] (fun i wr => ∃ (j : Int) (c : Nat) (fs : Array Value) (D : Img), c ≤ 14 ∧ j = (c : Int) - 1 ∧ i = .int .i64 j ∧ Hid (IsImg fs D) ∧ Hid (Mut w wr g (cs ++ fs) 141) ∧ Hid (Img.down m D c = Img.down m K 14)) (fun i _ => (intOf i + 1).toNat)
        case atStart => exact ⟨13, 14, es, K, by omega, by omega, rfl, HI, HM1, hide rfl⟩
        case round =>
          obtain ⟨j, c, fs, D, hc14, hjc, rfl, HI2, HM2, HD⟩ := hrel
          cases c with
          | zero =>
            have tg : decide (j ≥ 0) = false := by simp; omega
            have tg2 : decide (0 ≤ j) = false := by simp; omega
            clear hjc
            have HR2 := hide (show R.1 = (Img.syn m (8 - (r + 1)) D).1 + (r + 1) ∧ R.2 = (Img.syn m (8 - (r + 1)) D).2 from by
              have h1 := unhide HR
              rw [show 8 - r = (8 - (r + 1)) + 1 by omega, Img.syn_step hc] at h1
              have h2 : D = Img.down m K 14 := unhide HD
              rw [h2]
              exact ⟨by have := h1.1; simp at this; omega, h1.2⟩)
            go_wp2_with fail
            go_roundw
            case rel => exact ⟨r + 1, fs, D, by omega, by go_num, HI2, HM2, HR2⟩
            case measure => simp [intOf]; omega
          | succ c =>
            have tg : decide (j ≥ 0) = true := by simp; omega
            have tg2 : decide (0 ≤ j) = true := by simp; omega
            have hj0 : 0 ≤ j := by omega
            have hj13 : j ≤ 13 := by omega
            have HJ := hide (show j = (c : Int) by omega)
            clear hjc
            go_wp2_with fail
            refine (cWrite_any g cs fs m D hi (unhide HI2) j _ (unhide HM2).row).mono ?_
            rintro e w2 ⟨fs2, rfl, hI3, hM3⟩
            have HM3 := hide ((unhide HM2).trans hM3)
            have HI3 := hide hI3
            have HD3 := hide (show Img.down m (Img.write m D j) c = Img.down m K 14 from by rw [unhide HJ]; exact unhide HD)
            clear HM2 hM3 hI3 HI2 HD
            go_wp2_with fail
            go_roundw
            case rel => exact ⟨_, c, fs2, _, by omega, by have := unhide HJ; omega, rfl, HI3, HM3, HD3⟩
            case measure => simp [intOf]; omega
      · have HE := hide (show R.1 = r ∧ R.2 = K from by
          have h1 := unhide HR
          rw [Img.syn_stop hc] at h1
          exact ⟨by have := h1.1; simp at this; omega, h1.2⟩)
        go_wp2_with fail
        go_ret
        exact ⟨es, by rw [(unhide HE).1]; rfl, by rw [(unhide HE).2]; exact unhide HI, unhide HM1⟩
    · have t8 : decide ((r : Int) < 8) = false := by simp; omega
      have er : r = 8 := by omega
      subst er
      have HE := hide (show R.1 = 8 ∧ R.2 = K from by
        have h1 := unhide HR
        exact ⟨by have := h1.1; simp [Img.syn] at this; omega, h1.2⟩)
      go_wp2_with fail
      go_ret
      exact ⟨es, by rw [(unhide HE).1]; rfl, by rw [(unhide HE).2]; exact unhide HI, unhide HM⟩
set_option maxHeartbeats 1000000 in
theorem first_any (f : FuncId) (cb : Array Value) (n : Nat) (p : Nat → Bool) (w : World) (eg : ∀ args w, (callFunc f args).run Tryz.prog w = .ok (.enter f args) w) (hn : n ≤ 16)
    (hf : ∀ (q i : Nat), i < n → Calls Tryz.prog f (#[.int .i64 i] ++ cb) (w.drewN q) fun e w' => e = .returned (.bool (p i)) ∧ ∃ r, w' = w.drewN r) :
    Calls Tryz.prog 199 #[.int .i64 n, .func (.func f) #[] cb] w fun e w' => e = .returned (.int .i64 (Img.firstI p n)) ∧ ∃ r, w' = w.drewN r := by
  have HF := hide hf
  clear hf
  go_enter Tryz.func199, Tryz.ntmps199
  go_wp2_with fail
  go_loopw [7] (fun i wr => ∃ k q : Nat, k ≤ n ∧ i = .int .i64 k ∧ Hid (∀ j, j < k → p j = false) ∧ wr = w.drewN q) (fun i _ => n - (intOf i).toNat)
  case atStart => exact ⟨0, 0, Nat.zero_le _, rfl, hide fun j hj => by omega, rfl⟩
  case round =>
    obtain ⟨k, q, hk, rfl, HP, rfl⟩ := hrel
    by_cases hlt : k < n
    · have tn : decide ((k : Int) < (n : Int)) = true := by simp; omega
      have hz : (k : Int) < (n : Int) := by omega
      have hc := unhide HF q k hlt
      cases hp : p k
      · rw [hp] at hc
        go_wp2_with (go_at_fn f; refine hc.mono ?_; rintro e w' ⟨rfl, nq, rfl⟩)
        go_roundw
        case rel => exact ⟨k + 1, nq, by omega, by go_num, hide fun j hj => by
          by_cases e : j = k
          · subst e; exact hp
          · exact unhide HP j (by omega), rfl⟩
        case measure => simp [intOf]; omega
      · rw [hp] at hc
        have HE := hide (Img.firstI_at hp (unhide HP) hlt)
        go_wp2_with (go_at_fn f; refine hc.mono ?_; rintro e w' ⟨rfl, nq, rfl⟩)
        go_ret
        exact ⟨by rw [unhide HE]; rfl, _, rfl⟩
    · have ek : k = n := by omega
      subst ek
      have HE := hide (Img.firstI_none (unhide HP))
      go_wp2_with fail
      go_ret
      exact ⟨by rw [unhide HE]; rfl, _, rfl⟩
end Go.Proofs.YtfpfpnhpbnnmfadGreatDoor
namespace Go.Proofs.YtfpfpnhpbnnmfadGreatDoor
open Go.RowKit
set_option maxHeartbeats 1000000 in
theorem inode1_any (W : World) (bx g : Nat) (m k : Img) (n : Nat) (hn : n < 8) (h1 : W.cell? ⟨bx, 0, none⟩ = some (.pointer (some ⟨g, 0, none⟩))) (hm : HasAt W g 0 m) (hk : HasAt W g 94 k) :
    Calls Tryz.prog 200 (#[.int .i64 n] ++ #[.pointer (some ⟨bx, 0, none⟩)]) W fun e w' => e = .returned (.bool (!m.live n && (k.refs (n : Int) == 0))) ∧ w' = W := by
  have hlv := hm.live n hn
  rw [Nat.zero_add] at hlv
  have hl := hm.lt
  have hr := k.refs_le (n : Int)
  have C := hide (At.refs_any g k (n : Int) W hk)
  clear hm hk
  show Calls Tryz.prog 200 #[.int .i64 n, .pointer (some ⟨bx, 0, none⟩)] W _
  cases hl : m.live n
  · rw [hl] at hlv
    cases hz : (k.refs (n : Int) == 0)
    · have hz2 : (((k.refs (n : Int) : Nat) : Int) == 0) = false := by simp at hz ⊢; omega
      generalize k.refs (n : Int) = r at C hz hz2 hr
      obtain ⟨rr, hrr⟩ : ∃ rr : Int, rr = (r : Int) := ⟨_, rfl⟩
      rw [← hrr] at C hz2
      clear hrr
      go_enter Tryz.func200, Tryz.ntmps200
      go_wp2_with fail
      refine (unhide C).mono ?_
      rintro e wz ⟨rfl, ez⟩
      rw [ez]
      clear ez wz C
      go_wp2_with fail
      go_ret
      exact ⟨rfl, rfl⟩
    · have hz2 : k.refs (n : Int) = 0 := by simpa using hz
      rw [hz2] at C
      clear hz hz2 hr
      go_enter Tryz.func200, Tryz.ntmps200
      go_wp2_with fail
      refine (unhide C).mono ?_
      rintro e wz ⟨rfl, ez⟩
      rw [ez]
      clear ez wz C
      go_wp2_with fail
      go_ret
      exact ⟨rfl, rfl⟩
  · rw [hl] at hlv
    go_enter Tryz.func200, Tryz.ntmps200
    go_wp2_with fail
    go_ret
    exact ⟨rfl, rfl⟩
set_option maxHeartbeats 1000000 in
theorem data1_any (W : World) (bx g : Nat) (m k : Img) (x : Nat) (h1 : W.cell? ⟨bx, 0, none⟩ = some (.pointer (some ⟨g, 0, none⟩))) (hm : HasAt W g 0 m) (hk : HasAt W g 94 k) :
    Calls Tryz.prog 201 (#[.int .i64 x] ++ #[.pointer (some ⟨bx, 0, none⟩)]) W fun e w' => e = .returned (.bool (!m.holds (x : Int) && !k.holds (x : Int))) ∧ w' = W := by
  have C1 := hide (At.holds_any g m (x : Int) W hm)
  have C2 := hide (At.holds_any g k (x : Int) W hk)
  have hl := hm.lt
  clear hm hk
  show Calls Tryz.prog 201 #[.int .i64 x, .pointer (some ⟨bx, 0, none⟩)] W _
  cases hl1 : m.holds (x : Int)
  · rw [hl1] at C1
    cases hl2 : k.holds (x : Int)
    all_goals
      rw [hl2] at C2
      go_enter Tryz.func201, Tryz.ntmps201
      go_wp2_with fail
      refine (unhide C1).mono ?_
      rintro e wz ⟨rfl, ez⟩
      rw [ez]
      clear ez wz C1
      go_wp2_with fail
      refine (unhide C2).mono ?_
      rintro e wz ⟨rfl, ez⟩
      rw [ez]
      clear ez wz C2
      go_wp2_with fail
      go_ret
      exact ⟨rfl, rfl⟩
  · rw [hl1] at C1
    go_enter Tryz.func201, Tryz.ntmps201
    go_wp2_with fail
    refine (unhide C1).mono ?_
    rintro e wz ⟨rfl, ez⟩
    rw [ez]
    clear ez wz C1
    go_wp2_with fail
    go_ret
    exact ⟨rfl, rfl⟩
set_option maxHeartbeats 1000000 in
theorem slot1_any (W : World) (bx bd g : Nat) (m k : Img) (d s : Nat) (hd : d < 3) (hs : s < 4) (h1 : W.cell? ⟨bx, 0, none⟩ = some (.pointer (some ⟨g, 0, none⟩))) (h2 : W.cell? ⟨bd, 0, none⟩ = some (.int .i64 d)) (hm : HasAt W g 0 m) (hk : HasAt W g 94 k) :
    Calls Tryz.prog 202 (#[.int .i64 s] ++ #[.pointer (some ⟨bx, 0, none⟩), .pointer (some ⟨bd, 0, none⟩)]) W fun e w' => e = .returned (.bool (!m.named d s && !k.named d s)) ∧ ∃ q, w' = W.drewN q := by
  have n1 := hm.name d s hd hs
  have n2 := hk.name d s hd hs
  have hl := hm.lt
  have hdz : (d : Int) < 3 := by omega
  have hsz : (s : Int) < 4 := by omega
  clear hm hk
  have E : (!m.named d s && !k.named d s) = ((m.name d s).toList.isEmpty && (k.name d s).toList.isEmpty) := by unfold Img.named; simp
  rw [E]
  clear E
  show Calls Tryz.prog 202 #[.int .i64 s, .pointer (some ⟨bx, 0, none⟩), .pointer (some ⟨bd, 0, none⟩)] W _
  cases e1 : (m.name d s).toList.isEmpty
  · go_enter Tryz.func202, Tryz.ntmps202
    go_wp2_with fail
    go_quiet (fail)
    go_wp2_with fail
    go_ret
    exact ⟨rfl, _, rfl⟩
  · cases e2 : (k.name d s).toList.isEmpty
    all_goals
      go_enter Tryz.func202, Tryz.ntmps202
      go_wp2_with fail
      go_quiet (fail)
      go_wp2_with fail
      go_ret
      exact ⟨rfl, _, rfl⟩
section
variable {cs ds : Array Value} {m k : Img} {w W : World} {g : Nat}
theorem two_has (hi : IsImg cs m) (hj : IsImg ds k) (h : W.heap[g]? = some (.cells (cs ++ ds) 141)) (q : Nat) : HasAt (W.drewN q) g 0 m ∧ HasAt (W.drewN q) g 94 k := by
  have z1 := hi.size
  have z2 := hj.size
  exact ⟨hasAt_of (w := W.drewN q) h (by simp; omega) (app_fst z1) hi, hasAt_of (w := W.drewN q) h (by simp; omega) (app_snd z1 z2) hj⟩
end
set_option maxHeartbeats 1000000 in
theorem cInode_any (g : Nat) (cs ds : Array Value) (m k : Img) (hi : IsImg cs m) (hj : IsImg ds k) (w : World) (hg : w.heap[g]? = some (.cells (cs ++ ds) 141)) :
    Calls Tryz.prog 153 #[.pointer (some ⟨g, 0, none⟩)] w fun e w' => e = .returned (.int .i64 (Img.freeIno m k)) ∧ Below w.heap.size w w' := by
  have hgl : g < w.heap.size := (Array.getElem?_eq_some_iff.1 hg).1
  have eg : ∀ args w, (callFunc 200 args).run Tryz.prog w = .ok (.enter 200 args) w := enters_of Tryz.func200 (by kernel_rfl) rfl
  have hB : Below w.heap.size w (w.alloc (.cells #[.pointer (some ⟨g, 0, none⟩)] 111)) := (Below.refl _ _).alloc (Nat.le_refl _) _
  have hr : (w.alloc (.cells #[.pointer (some ⟨g, 0, none⟩)] 111)).heap[g]? = some (.cells (cs ++ ds) 141) := by rw [Below.heap_alloc _ _ _ hgl]; exact hg
  have hc : (w.alloc (.cells #[.pointer (some ⟨g, 0, none⟩)] 111)).cell? ⟨w.heap.size, 0, none⟩ = some (.pointer (some ⟨g, 0, none⟩)) := by rw [cell_of_row _ _ _ _ _ _ (heap_alloc_last _ _)]; rfl
  have HF := hide (show ∀ (q i : Nat), i < 8 → Calls Tryz.prog 200 (#[.int .i64 i] ++ #[.pointer (some ⟨w.heap.size, 0, none⟩)]) ((w.alloc (.cells #[.pointer (some ⟨g, 0, none⟩)] 111)).drewN q) fun e w' => e = .returned (.bool (!m.live i && (k.refs (i : Int) == 0))) ∧ ∃ r, w' = (w.alloc (.cells #[.pointer (some ⟨g, 0, none⟩)] 111)).drewN r from fun q i hi8 =>
    (inode1_any ((w.alloc (.cells #[.pointer (some ⟨g, 0, none⟩)] 111)).drewN q) w.heap.size g m k i hi8 hc (two_has hi hj hr q).1 (two_has hi hj hr q).2).mono fun e w' ⟨h1, h2⟩ => ⟨h1, q, h2⟩)
  clear hc hr hg
  go_enter Tryz.func153, Tryz.ntmps153
  go_wp2_with fail
  refine (first_any 200 #[.pointer (some ⟨w.heap.size, 0, none⟩)] 8 (fun n => !m.live n && (k.refs (n : Int) == 0)) _ eg (by omega) (unhide HF)).mono ?_
  rintro e w1 ⟨rfl, q, rfl⟩
  go_wp2_with fail
  go_ret
  exact ⟨rfl, belowN hB⟩
set_option maxHeartbeats 1000000 in
theorem cData_any (g : Nat) (cs ds : Array Value) (m k : Img) (hi : IsImg cs m) (hj : IsImg ds k) (w : World) (hg : w.heap[g]? = some (.cells (cs ++ ds) 141)) :
    Calls Tryz.prog 155 #[.pointer (some ⟨g, 0, none⟩)] w fun e w' => e = .returned (.int .i64 (Img.freeData m k)) ∧ Below w.heap.size w w' := by
  have hgl : g < w.heap.size := (Array.getElem?_eq_some_iff.1 hg).1
  have eg : ∀ args w, (callFunc 201 args).run Tryz.prog w = .ok (.enter 201 args) w := enters_of Tryz.func201 (by kernel_rfl) rfl
  have hB : Below w.heap.size w (w.alloc (.cells #[.pointer (some ⟨g, 0, none⟩)] 111)) := (Below.refl _ _).alloc (Nat.le_refl _) _
  have hr : (w.alloc (.cells #[.pointer (some ⟨g, 0, none⟩)] 111)).heap[g]? = some (.cells (cs ++ ds) 141) := by rw [Below.heap_alloc _ _ _ hgl]; exact hg
  have hc : (w.alloc (.cells #[.pointer (some ⟨g, 0, none⟩)] 111)).cell? ⟨w.heap.size, 0, none⟩ = some (.pointer (some ⟨g, 0, none⟩)) := by rw [cell_of_row _ _ _ _ _ _ (heap_alloc_last _ _)]; rfl
  have HF := hide (show ∀ (q i : Nat), i < 9 → Calls Tryz.prog 201 (#[.int .i64 i] ++ #[.pointer (some ⟨w.heap.size, 0, none⟩)]) ((w.alloc (.cells #[.pointer (some ⟨g, 0, none⟩)] 111)).drewN q) fun e w' => e = .returned (.bool (!m.holds (i : Int) && !k.holds (i : Int))) ∧ ∃ r, w' = (w.alloc (.cells #[.pointer (some ⟨g, 0, none⟩)] 111)).drewN r from fun q i _ =>
    (data1_any ((w.alloc (.cells #[.pointer (some ⟨g, 0, none⟩)] 111)).drewN q) w.heap.size g m k i hc (two_has hi hj hr q).1 (two_has hi hj hr q).2).mono fun e w' ⟨h1, h2⟩ => ⟨h1, q, h2⟩)
  clear hc hr hg
  go_enter Tryz.func155, Tryz.ntmps155
  go_wp2_with fail
  refine (first_any 201 #[.pointer (some ⟨w.heap.size, 0, none⟩)] 9 (fun x => !m.holds (x : Int) && !k.holds (x : Int)) _ eg (by omega) (unhide HF)).mono ?_
  rintro e w1 ⟨rfl, q, rfl⟩
  go_wp2_with fail
  go_ret
  exact ⟨rfl, belowN hB⟩
def slotBoxes (w : World) (g : Nat) (d : Int) : World := (w.alloc (.cells #[.pointer (some ⟨g, 0, none⟩)] 111)).alloc (.cells #[.int .i64 d] 3)
theorem slotBoxes_cells (w : World) (g : Nat) (d : Int) : (slotBoxes w g d).cell? ⟨w.heap.size, 0, none⟩ = some (.pointer (some ⟨g, 0, none⟩)) ∧ (slotBoxes w g d).cell? ⟨w.heap.size + 1, 0, none⟩ = some (.int .i64 d) :=
  ⟨by unfold slotBoxes; rw [cell_of_row _ _ _ _ _ _ (heap_alloc2_old _ _ _)]; rfl, by unfold slotBoxes; rw [cell_of_row _ _ _ _ _ _ (heap_alloc2_new _ _ _)]; rfl⟩
set_option maxHeartbeats 1000000 in
theorem cSlot_any (g : Nat) (cs ds : Array Value) (m k : Img) (hi : IsImg cs m) (hj : IsImg ds k) (d : Int) (w : World) (hg : w.heap[g]? = some (.cells (cs ++ ds) 141)) :
    Calls Tryz.prog 156 #[.pointer (some ⟨g, 0, none⟩), .int .i64 d] w fun e w' => e = .returned (.int .i64 (Img.freeSlot m k d)) ∧ Below w.heap.size w w' := by
  have hgl : g < w.heap.size := (Array.getElem?_eq_some_iff.1 hg).1
  have eg : ∀ args w, (callFunc 202 args).run Tryz.prog w = .ok (.enter 202 args) w := enters_of Tryz.func202 (by kernel_rfl) rfl
  have hB : Below w.heap.size w (slotBoxes w g d) := ((Below.refl _ _).alloc (Nat.le_refl _) _).alloc (by simp) _
  obtain ⟨c1, c2⟩ := slotBoxes_cells w g d
  have hr : (slotBoxes w g d).heap[g]? = some (.cells (cs ++ ds) 141) := by rw [hB.block _ hgl]; exact hg
  by_cases hd : 0 ≤ d ∧ d < 3
  · obtain ⟨e, rfl⟩ := Int.eq_ofNat_of_zero_le hd.1
    have he : e < 3 := by omega
    have E : Img.freeSlot m k (e : Int) = Img.firstI (fun s => !m.named e s && !k.named e s) 4 := by unfold Img.freeSlot; rw [if_pos hd, Int.toNat_natCast]
    rw [E]
    clear E
    have HF := hide (show ∀ (q i : Nat), i < 4 → Calls Tryz.prog 202 (#[.int .i64 i] ++ #[.pointer (some ⟨w.heap.size, 0, none⟩), .pointer (some ⟨w.heap.size + 1, 0, none⟩)]) ((slotBoxes w g (e : Int)).drewN q) fun r w' => r = .returned (.bool (!m.named e i && !k.named e i)) ∧ ∃ r, w' = (slotBoxes w g (e : Int)).drewN r from fun q i hi4 =>
      (slot1_any ((slotBoxes w g (e : Int)).drewN q) w.heap.size (w.heap.size + 1) g m k e i he hi4 c1 c2 (two_has hi hj hr q).1 (two_has hi hj hr q).2).mono fun r w' ⟨h1, n, h2⟩ => ⟨h1, q + n, by rw [h2, drewNN]⟩)
    have t1 : decide ((e : Int) < 0) = false := by simp
    have t2 : decide (3 ≤ (e : Int)) = false := by simp; omega
    clear hr hg hd
    go_enter Tryz.func156, Tryz.ntmps156
    go_wp2_with fail
    rw [← slotBoxes.eq_1]
    refine (first_any 202 #[.pointer (some ⟨w.heap.size, 0, none⟩), .pointer (some ⟨w.heap.size + 1, 0, none⟩)] 4 (fun s => !m.named e s && !k.named e s) _ eg (by omega) (unhide HF)).mono ?_
    rintro e w1 ⟨rfl, q, rfl⟩
    go_wp2_with fail
    go_ret
    exact ⟨rfl, belowN hB⟩
  · have E : Img.freeSlot m k d = -1 := by unfold Img.freeSlot; rw [if_neg hd]
    rw [E]
    clear E
    by_cases h0 : d < 0
    · have t1 : decide (d < 0) = true := by simpa using h0
      clear h0 hd hr hg eg
      go_enter Tryz.func156, Tryz.ntmps156
      go_wp2_with fail
      go_ret
      exact ⟨rfl, hB⟩
    · have t1 : decide (d < 0) = false := by simpa using h0
      have t2 : decide (3 ≤ d) = true := by simp; omega
      have t3 : decide (d ≥ 3) = true := by simp; omega
      clear h0 hd hr hg eg
      go_enter Tryz.func156, Tryz.ntmps156
      go_wp2_with fail
      go_ret
      exact ⟨rfl, hB⟩
end Go.Proofs.YtfpfpnhpbnnmfadGreatDoor
namespace Go.Proofs.YtfpfpnhpbnnmfadGreatDoor
open Go.RowKit
namespace Idl
/-- what is outside of 'own' is as it was -/
structure Chg (own : Nat → Prop) (w w' : World) : Prop where
  os : w'.os = w.os
  tape : w'.tape = w.tape
  output : w'.output = w.output
  size : w.heap.size ≤ w'.heap.size
  block : ∀ k, k < w.heap.size → ¬ own k → w'.heap[k]? = w.heap[k]?
theorem Chg.of_below {own : Nat → Prop} {w w' : World} (h : Below w.heap.size w w') : Chg own w w' := ⟨h.os, h.tape, h.output, h.size, fun k hk _ => h.block k hk⟩
theorem Chg.trans {own own' : Nat → Prop} {a b c : World} (h : Chg own a b) (k : Chg own' b c) (ho : ∀ i, own' i → own i ∨ a.heap.size ≤ i) : Chg own a c :=
  ⟨k.os.trans h.os, k.tape.trans h.tape, k.output.trans h.output, Nat.le_trans h.size k.size, fun i hi hn => (k.block i (Nat.lt_of_lt_of_le hi h.size) (fun ho' => by rcases ho i ho' with h1 | h1; exact hn h1; omega)).trans (h.block i hi hn)⟩
theorem Chg.below {own : Nat → Prop} {B : Nat} {w w' : World} (h : Chg own w w') (hB : B ≤ w.heap.size) (ho : ∀ k, own k → B ≤ k) : Below B w w' :=
  ⟨h.os, h.tape, h.output, h.size, fun k hk => h.block k (by omega) (fun hk' => by have := ho k hk'; omega)⟩
theorem ownsRow_of_block {w w' : World} {base : Nat} {e : TypeId} {size : Nat} {v : Value} {n : Nat} {xs : List Value} (h : w.ownsRow base e size v n xs) (hk : ∀ k, v.ownBlock = some k → w'.heap[k]? = w.heap[k]?) : w'.ownsRow base e size v n xs := by
  refine ⟨h.1, ?_⟩
  rcases h.2 with hn | ⟨g, cap, cur, rfl, hb, hg, rest⟩
  · exact .inl hn
  · exact .inr ⟨g, cap, cur, rfl, hb, by rw [hk g rfl]; exact hg, rest⟩
end Idl
end Go.Proofs.YtfpfpnhpbnnmfadGreatDoor
namespace Go.Proofs.YtfpfpnhpbnnmfadGreatDoor
open Go.RowKit
namespace Idl
abbrev stpA (x : Stp) : Array Value := #[.int .i64 x.kind, .int .i64 x.dir, .int .i64 x.toDir, .int .i64 x.p, .string x.name, .string x.to, .string x.text]
set_option maxHeartbeats 400000 in
theorem isDir_any (x : Int) (w : World) :
    Calls Tryz.prog 226 #[.int .i64 x] w fun e w' => e = .returned (.bool (isD x)) ∧ w' = w := by
  go_enter Tryz.func226, Tryz.ntmps226
  go_wp2
  all_goals
    go_ret
    refine ⟨ret_bool ?_, rfl⟩
    simp [isD]
    try omega
set_option maxHeartbeats 400000 in
theorem checkPlace_any (x : Int) (s : ByteArray) (hs : s.size ≤ maxLen) (w : World) :
    Calls Tryz.prog 198 #[.int .i64 x, .string s] w fun e w' => e = .returned (.int .i64 (spot x s)) ∧ w' = w := by
  cases h1 : isD x
  · have e : spot x s = 1 := by simp [spot, h1]
    rw [e]
    clear e
    have hc := isDir_any x w
    rw [h1] at hc
    clear h1
    go_enter Tryz.func198, Tryz.ntmps198
    go_wp2_with (go_at_call 226; refine hc.mono ?_; rintro e w' ⟨rfl, rfl⟩)
    go_ret
    exact ⟨rfl, rfl⟩
  · have hc := isDir_any x w
    rw [h1] at hc
    cases h2 : Img.isNmB s.toList
    · have e : spot x s = 2 := by simp [spot, h1, h2]
      rw [e]
      have hn := name_any s hs w
      rw [h2] at hn
      clear e h1 h2
      go_enter Tryz.func198, Tryz.ntmps198
      go_wp2_with (first
        | (go_at_call 226; refine hc.mono ?_; rintro e w' ⟨rfl, rfl⟩)
        | (go_at_call 221; refine hn.mono ?_; rintro e w' ⟨rfl, rfl⟩))
      go_ret
      exact ⟨rfl, rfl⟩
    · have e : spot x s = 0 := by simp [spot, h1, h2]
      rw [e]
      have hn := name_any s hs w
      rw [h2] at hn
      clear e h1 h2
      go_enter Tryz.func198, Tryz.ntmps198
      go_wp2_with (first
        | (go_at_call 226; refine hc.mono ?_; rintro e w' ⟨rfl, rfl⟩)
        | (go_at_call 221; refine hn.mono ?_; rintro e w' ⟨rfl, rfl⟩))
      go_ret
      exact ⟨rfl, rfl⟩
set_option maxHeartbeats 1000000 in
theorem Check_any (x : Stp) (hn : x.name.size ≤ maxLen) (ht : x.to.size ≤ maxLen) (hx : x.text.size ≤ maxLen) (w : World) :
    Calls Tryz.prog 152 #[.agg (stpA x)] w fun e w' => e = .returned (.int .i64 (chk x)) ∧ Below w.heap.size w w' := by
  unfold maxLen at hx
  go_enter Tryz.func152, Tryz.ntmps152
  go_wp2_with (first
        | (go_at_call_of 198 x.dir; refine (checkPlace_any x.dir x.name hn _).mono ?_; rintro e w' ⟨rfl, rfl⟩)
        | (go_at_call_of 198 x.toDir; refine (checkPlace_any x.toDir x.to ht _).mono ?_; rintro e w' ⟨rfl, rfl⟩))
  all_goals
    go_ret
    refine ⟨ret_int ?_, (Below.refl _ _).alloc (Nat.le_refl _) _⟩
    try simp only [bne_eq_false_iff_eq, beq_iff_eq, beq_eq_false_iff_ne, bne_iff_ne, ne_eq] at *
    unfold chk
    repeat' split
    all_goals first | rfl | omega
end Idl
end Go.Proofs.YtfpfpnhpbnnmfadGreatDoor
namespace Go.Proofs.YtfpfpnhpbnnmfadGreatDoor
open Go.RowKit
open Idl (Stp chk stpA)
/-- files at the block bf: their cache lies at bc; what is to be, and what lies on the disk -/
structure Fl (w : World) (bf bc : Nat) (cs ds : Array Value) (m k : Img) (last : Int) : Prop where
  root : w.heap[bf]? = some (.cells #[.pointer (some ⟨bc, 0, none⟩), .int .i64 last] 114)
  row : w.heap[bc]? = some (.cells (cs ++ ds) 141)
  now : IsImg cs m
  disk : IsImg ds k
  ne : bf ≠ bc
section
variable {w w' : World} {bf bc : Nat} {cs ds : Array Value} {m k : Img} {last : Int}
theorem Fl.flt (h : Fl w bf bc cs ds m k last) : bf < w.heap.size := (Array.getElem?_eq_some_iff.1 h.root).1
theorem Fl.clt (h : Fl w bf bc cs ds m k last) : bc < w.heap.size := (Array.getElem?_eq_some_iff.1 h.row).1
theorem Fl.keep (h : Fl w bf bc cs ds m k last) (h1 : w'.heap[bf]? = w.heap[bf]?) (h2 : w'.heap[bc]? = w.heap[bc]?) : Fl w' bf bc cs ds m k last :=
  ⟨by rw [h1]; exact h.root, by rw [h2]; exact h.row, h.now, h.disk, h.ne⟩
theorem Fl.below (h : Fl w bf bc cs ds m k last) (hb : Below w.heap.size w w') : Fl w' bf bc cs ds m k last := h.keep (hb.block _ h.flt) (hb.block _ h.clt)
theorem Fl.ptr (h : Fl w bf bc cs ds m k last) : w.cell? ⟨bf, 0, none⟩ = some (.pointer (some ⟨bc, 0, none⟩)) := by rw [cell_of_row w bf 0 _ _ _ h.root]; rfl
theorem Fl.lst (h : Fl w bf bc cs ds m k last) : w.cell? ⟨bf, 1, none⟩ = some (.int .i64 last) := by rw [cell_of_row w bf 1 _ _ _ h.root]; rfl
theorem Fl.hasNow (h : Fl w bf bc cs ds m k last) : HasAt w bc 0 m := (two_has h.now h.disk h.row 0).1
theorem Fl.hasDisk (h : Fl w bf bc cs ds m k last) : HasAt w bc 94 k := (two_has h.now h.disk h.row 0).2
end
section
variable {w : World} {bf bc : Nat} {cs ds : Array Value} {m k : Img} {last : Int}
set_option maxHeartbeats 1000000 in
set_option maxRecDepth 100000 in
theorem sfind_any (h : Fl w bf bc cs ds m k last) (d : Int) (s : ByteArray) :
    Calls Tryz.prog 87 #[.pointer (some ⟨bf, 0, none⟩), .int .i64 d, .string s] w fun e w' => e = .returned (.int .i64 (Img.inoOf m d s)) ∧ w' = w := by
  have C := hide (At.find_any bc m d s w h.hasNow)
  have p0 := h.ptr
  have flt := h.flt
  have clt := h.clt
  by_cases hf : m.findAt d s.toList < 0
  · have e1 : Img.inoOf m d s = -1 := by unfold Img.inoOf; rw [if_pos hf]
    rw [e1]
    have u1 : decide (m.findAt d s.toList < 0) = true := by simpa using hf
    generalize m.findAt d s.toList = v at C u1
    clear hf h e1
    go_enter Tryz.func87, Tryz.ntmps87
    go_wp2_with fail
    refine (unhide C).mono ?_
    rintro e w0 ⟨rfl, e9⟩
    rw [e9]
    clear e9 w0
    go_wp2_with fail
    go_ret
    exact ⟨rfl, rfl⟩
  · obtain ⟨⟨d0, d3⟩, _, j, hj, e1, _, _⟩ := Img.findAt_some (Int.not_lt.1 hf)
    obtain ⟨dd, rfl⟩ := Int.eq_ofNat_of_zero_le d0
    have e2 : Img.inoOf m (dd : Int) s = m.ino dd j := by unfold Img.inoOf; rw [if_neg hf, e1, Int.toNat_natCast, Int.toNat_natCast]
    rw [e2]
    rw [e1] at C
    have c1 := h.hasNow.ino dd j (by omega) hj
    have dz : (dd : Int) < 3 := d3
    have jz : (j : Int) < 4 := by omega
    have u1 : decide ((j : Int) < 0) = false := by simp
    generalize m.ino dd j = v at c1
    clear hf h e1 e2
    go_enter Tryz.func87, Tryz.ntmps87
    go_wp2_with fail
    refine (unhide C).mono ?_
    rintro e w0 ⟨rfl, e9⟩
    rw [e9]
    clear e9 w0
    go_wp2_with fail
    go_ret
    exact ⟨rfl, rfl⟩
end
end Go.Proofs.YtfpfpnhpbnnmfadGreatDoor
