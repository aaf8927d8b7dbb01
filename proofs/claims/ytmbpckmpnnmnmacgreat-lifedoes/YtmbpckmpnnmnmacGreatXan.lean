/-
  The walks of package cache: Clean, Write.
-/
import Derived.Test.YtmbpckmpnnmnmacGreatZz
import Derived.Test.YtmbpckmpnnmnmacGreatXam
import Derived.Shelf.Abstract
import Derived.BigQuiet
namespace Go.Proofs.YtmbpckmpnnmnmacGreat
open Go.RowKit
set_option maxRecDepth 100000 in
set_option maxHeartbeats 2000000 in
theorem clean_any (g : Nat) (cs ds : Array Value) (m k : Img) (hi : IsImg cs m) (hj : IsImg ds k) (w : World) (hg : w.heap[g]? = some (.cells (cs ++ ds) 57)) :
    Calls Tryz.prog 30 #[.pointer (some ⟨g, 0, none⟩)] w fun e w' => e = .returned (.bool (Img.sameImg m k)) ∧ Below w.heap.size w w' := by
  have q := eqlImg hi hj
  have z1 := hi.size
  have z2 := hj.size
  go_enter Tryz.func30, Tryz.ntmps30
  go_wp2_with fail
  refine wp_region_held_drew (S := fun W => W.heap[g]? = some (.cells (cs ++ ds) 57)) (by kernel_rfl) hg (fun hS => ?_)
  refine tkP (i := 0) (oi := ⟨some 3, .move (.tmp 0), 51, "cache.go:62", #[], none⟩) (v := .pointer (some ⟨g, 0, none⟩)) hS ?_
  refine tkP (i := 1) (oi := ⟨some 4, .nilCheck (.tmp 3), 0, "cache.go:62", #[⟨0, .data⟩], none⟩) (v := .pointer (some ⟨g, 0, none⟩)) hS ?_
  refine tkP (i := 2) (oi := ⟨some 5, .fieldAddr 57 (.tmp 4) 0, 0, "cache.go:62", #[⟨1, .data⟩], none⟩) (v := .pointer (some ⟨g, 0, none⟩)) hS ?_
  refine tkH (i := 3) (oi := ⟨some 6, .load 44 (.tmp 5), 44, "cache.go:62", #[⟨2, .data⟩], none⟩) (v := .agg cs) (fun W h => run_exec_load_part 44 (.tmp 5) (by kernel_rfl) g 0 94 (by kernel_rfl) W 57 (cs ++ ds) cs _ h img_under rfl zero_img.2 (by simp; omega) (app_fst hi.size)) hS ?_
  refine tkP (i := 4) (oi := ⟨some 7, .move (.tmp 0), 51, "cache.go:62", #[], none⟩) (v := .pointer (some ⟨g, 0, none⟩)) hS ?_
  refine tkP (i := 5) (oi := ⟨some 8, .nilCheck (.tmp 7), 0, "cache.go:62", #[⟨4, .data⟩], none⟩) (v := .pointer (some ⟨g, 0, none⟩)) hS ?_
  refine tkP (i := 6) (oi := ⟨some 9, .fieldAddr 57 (.tmp 8) 1, 0, "cache.go:62", #[⟨5, .data⟩], none⟩) (v := .pointer (some ⟨g, 94, none⟩)) hS ?_
  refine tkH (i := 7) (oi := ⟨some 10, .load 44 (.tmp 9), 44, "cache.go:62", #[⟨6, .data⟩], none⟩) (v := .agg ds) (fun W h => run_exec_load_part 44 (.tmp 9) (by kernel_rfl) g 94 94 (by kernel_rfl) W 57 (cs ++ ds) ds _ h img_under rfl zero_img.2 (by simp; omega) (app_snd hi.size hj.size)) hS ?_
  refine tkH (i := 8) (oi := ⟨some 11, .binOp .eql 44 (.tmp 6) (.tmp 10) 44, 4, "cache.go:62", #[⟨3, .data⟩, ⟨7, .data⟩], none⟩) (v := .bool (Img.sameImg m k)) (fun W h => run_exec_eql 44 44 (.tmp 6) (.tmp 10) (by kernel_rfl) cs ds (by kernel_rfl) (by kernel_rfl) _ Tryz.eqGuardType44 q W) hS ?_
  refine tkH (i := 9) (oi := ⟨some 2, .assign (.tmp 11), 4, "cache.go:62", #[⟨8, .data⟩, ⟨0, .phase⟩, ⟨1, .phase⟩, ⟨2, .phase⟩, ⟨3, .phase⟩, ⟨4, .phase⟩, ⟨5, .phase⟩, ⟨6, .phase⟩, ⟨7, .phase⟩, ⟨8, .phase⟩], none⟩) (v := .bool (Img.sameImg m k)) (fun W h => (by kernel_rfl)) hS ?_
  refine wpAnyH_done (by kernel_rfl) ?_ _
  simp only [Act.put, List.setIfInBounds_toArray, List.set_cons_zero, List.set_cons_succ]
  go_wp2_with fail
  go_ret
  exact ⟨rfl, (Below.refl _ _).drew⟩
set_option maxRecDepth 100000 in
set_option maxHeartbeats 2000000 in
theorem cWrite_any (g : Nat) (cs ds : Array Value) (m k : Img) (hi : IsImg cs m) (hj : IsImg ds k) (b : Int) (w : World) (hg : w.heap[g]? = some (.cells (cs ++ ds) 57)) :
    Calls Tryz.prog 56 #[.pointer (some ⟨g, 0, none⟩), .int .i64 b] w fun e w' => ∃ es, e = .returned (.bool (Img.inB b)) ∧ IsImg es (Img.write m k b) ∧ Mut w w' g (cs ++ es) 57 := by
  have z1 := hi.size
  have z2 := hj.size
  have z := zero_img.1
  have hgl : g < w.heap.size := (Array.getElem?_eq_some_iff.1 hg).1
  go_enter Tryz.func56, Tryz.ntmps56
  go_wp2_with fail
  go_cut [5, 6] (fun p q wx => ∃ gx es, p = .pointer (some ⟨gx, 0, none⟩) ∧ q = .bool (Img.inB b) ∧ IsImg es (Img.write m k b) ∧ wx.heap[gx]? = some (.cells es 44) ∧ Below w.heap.size w wx)
  case first =>
    have hB0 : Below w.heap.size w w.drew := (Below.refl _ _).drew
    have hl0 : g < w.drew.heap.size := hgl
    refine wp_region_held_drew (S := fun W => W.heap[g]? = some (.cells (cs ++ ds) 57)) (by kernel_rfl) hg (fun hS => ?_)
    refine tkP (i := 0) (oi := ⟨some 8, .move (.tmp 0), 51, "cache.go:41", #[], none⟩) (v := .pointer (some ⟨g, 0, none⟩)) hS ?_
    refine tkP (i := 1) (oi := ⟨some 9, .nilCheck (.tmp 8), 0, "cache.go:41", #[⟨0, .data⟩], none⟩) (v := .pointer (some ⟨g, 0, none⟩)) hS ?_
    refine tkP (i := 2) (oi := ⟨some 10, .fieldAddr 57 (.tmp 9) 0, 0, "cache.go:41", #[⟨1, .data⟩], none⟩) (v := .pointer (some ⟨g, 0, none⟩)) hS ?_
    refine tkP (i := 3) (oi := ⟨some 11, .move (.tmp 0), 51, "cache.go:41", #[], none⟩) (v := .pointer (some ⟨g, 0, none⟩)) hS ?_
    refine tkP (i := 4) (oi := ⟨some 12, .nilCheck (.tmp 11), 0, "cache.go:41", #[⟨3, .data⟩], none⟩) (v := .pointer (some ⟨g, 0, none⟩)) hS ?_
    refine tkP (i := 5) (oi := ⟨some 13, .fieldAddr 57 (.tmp 12) 1, 0, "cache.go:41", #[⟨4, .data⟩], none⟩) (v := .pointer (some ⟨g, 94, none⟩)) hS ?_
    refine tkP (i := 6) (oi := ⟨some 14, .move (.tmp 1), 3, "cache.go:41", #[], none⟩) (v := .int .i64 b) hS ?_
    generalize w.drew = W0 at hS hB0 hl0 ⊢
    refine wpAnyH_ready (rs := [7, 11]) (by kernel_rfl) (by simp) ?_
    refine AllReadyH.cons (o := ⟨some 15, .call { callee := .value (.func 88), args := #[.tmp 10, .tmp 13, .tmp 14], argTypes := #[64, 64, 3] }, 109, "cache.go:41", #[⟨2, .data⟩, ⟨5, .data⟩, ⟨6, .data⟩], none⟩) rfl (fun K hK => ?_) (AllReadyH.cons (o := ⟨some 5, .alloc 44, 0, "cache.go:41", #[], none⟩) rfl (fun K hK => ?_) AllReadyH.nil)
    · skip
      go_simp
      refine (At.write_any (ob := 0) (oc := 94) g g m k b _ (hasAt_of hS (by simp; omega) (app_fst z1) hi) ⟨ds, _, _, hS, by simp; omega, app_snd z1 z2, hj⟩).mono ?_
      rintro e w1 ⟨⟨es, rfl, he⟩, hb1⟩
      go_wp2_with fail
      refine hK.out _ _ (by rw [hb1.block _ hl0]; exact hS) (fun hS1 => ?_)
      clear hK K
      refine tkP (i := 8) (oi := ⟨some 7, .move (.tmp 15), 109, "cache.go:41", #[⟨7, .data⟩], none⟩) (v := .tuple #[.agg es, .bool (Img.inB b)]) hS1 ?_
      refine tkP (i := 9) (oi := ⟨some 16, .extract (.tmp 7) 0, 44, "cache.go:41", #[⟨8, .data⟩], none⟩) (v := .agg es) hS1 ?_
      refine tkP (i := 10) (oi := { dst := some 17, op := Op.extract (Operand.tmp 7) 1, type := 4, pos := "cache.go:41", after := #[⟨8, .data⟩, { on := 12, ground := Ground.gcOnly Departure.lateStores }], guard := none }) (v := .bool (Img.inB b)) hS1 ?_
      refine wpAnyH_ready (rs := [11]) (by kernel_rfl) (by simp) ?_
      refine AllReadyH.cons (o := ⟨some 5, .alloc 44, 0, "cache.go:41", #[], none⟩) rfl (fun K hK => ?_) AllReadyH.nil
      go_simp
      have hl1 : g < w1.heap.size := Nat.lt_of_lt_of_le hl0 hb1.size
      refine hK.out _ _ (by rw [Below.heap_alloc _ _ _ hl1]; exact hS1) (fun hS2 => ?_)
      clear hK K
      refine wpAnyH_ready (rs := [12]) (by kernel_rfl) (by simp) ?_
      refine AllReadyH.cons (o := { dst := none, op := Op.store 44 (Operand.tmp 5) (Operand.tmp 16), type := 0, pos := "cache.go:41", after := #[⟨11, .data⟩, ⟨9, .data⟩, ⟨7, .chain⟩, ⟨0, .phase⟩, ⟨1, .phase⟩, ⟨2, .phase⟩, ⟨3, .phase⟩, ⟨4, .phase⟩, ⟨5, .phase⟩, ⟨6, .phase⟩, ⟨7, .phase⟩, ⟨8, .phase⟩, ⟨9, .phase⟩, { on := 10, ground := Ground.textOnly Departure.lateStores }, ⟨11, .phase⟩], guard := none }) rfl (fun K hK => ?_) AllReadyH.nil
      rw [if_pos (by kernel_rfl)]
      refine wp_store_row 44 (.tmp 5) (.tmp 16) rfl (w1.heap.size) es (by kernel_rfl) (by kernel_rfl) 44 zeroCells (heap_alloc_last _ _) (img_info he.size) (zero_size he) he.all ?_
      refine hK.out _ _ (by rw [setRow_other _ _ _ _ (by omega)]; exact hS2) (fun hS3 => ?_)
      clear hK K
      refine tkP (i := 13) (oi := ⟨some 6, .assign (.tmp 17), 4, "cache.go:41", #[⟨10, .data⟩, ⟨12, .chain⟩, ⟨0, .phase⟩, ⟨1, .phase⟩, ⟨2, .phase⟩, ⟨3, .phase⟩, ⟨4, .phase⟩, ⟨5, .phase⟩, ⟨6, .phase⟩, ⟨7, .phase⟩, ⟨8, .phase⟩, ⟨9, .phase⟩, ⟨10, .phase⟩, ⟨11, .phase⟩, ⟨12, .phase⟩], none⟩) (v := .bool (Img.inB b)) hS3 ?_
      refine wpAnyH_done (by kernel_rfl) ?_ _
      simp only [Act.put, List.setIfInBounds_toArray, List.set_cons_zero, List.set_cons_succ]
      go_wp2_with fail
      go_meet
      exact ⟨_, es, rfl, rfl, he, setRow_heap _ _ _ _ _ _ (heap_alloc_last _ _), below_setRow ((hB0.trans (hb1.mono hB0.size)).alloc (hB0.trans (hb1.mono hB0.size)).size _) (hB0.trans (hb1.mono hB0.size)).size _⟩
    · go_simp
      refine hK.out _ _ (by rw [Below.heap_alloc _ _ _ hl0]; exact hS) (fun hS1 => ?_)
      clear hK K
      refine wpAnyH_ready (rs := [7]) (by kernel_rfl) (by simp) ?_
      refine AllReadyH.cons (o := ⟨some 15, .call { callee := .value (.func 88), args := #[.tmp 10, .tmp 13, .tmp 14], argTypes := #[64, 64, 3] }, 109, "cache.go:41", #[⟨2, .data⟩, ⟨5, .data⟩, ⟨6, .data⟩], none⟩) rfl (fun K hK => ?_) AllReadyH.nil
      go_simp
      refine (At.write_any (ob := 0) (oc := 94) g g m k b _ (hasAt_of hS1 (by simp; omega) (app_fst z1) hi) ⟨ds, _, _, hS1, by simp; omega, app_snd z1 z2, hj⟩).mono ?_
      rintro e w1 ⟨⟨es, rfl, he⟩, hb1⟩
      go_wp2_with fail
      refine hK.out _ _ (by rw [hb1.block _ (by simp; omega)]; exact hS1) (fun hS2 => ?_)
      clear hK K
      refine tkP (i := 8) (oi := ⟨some 7, .move (.tmp 15), 109, "cache.go:41", #[⟨7, .data⟩], none⟩) (v := .tuple #[.agg es, .bool (Img.inB b)]) hS2 ?_
      refine tkP (i := 9) (oi := ⟨some 16, .extract (.tmp 7) 0, 44, "cache.go:41", #[⟨8, .data⟩], none⟩) (v := .agg es) hS2 ?_
      refine tkP (i := 10) (oi := { dst := some 17, op := Op.extract (Operand.tmp 7) 1, type := 4, pos := "cache.go:41", after := #[⟨8, .data⟩, { on := 12, ground := Ground.gcOnly Departure.lateStores }], guard := none }) (v := .bool (Img.inB b)) hS2 ?_
      have hr : w1.heap[W0.heap.size]? = some (.cells zeroCells 44) := by rw [hb1.block _ (by simp)]; exact heap_alloc_last _ _
      have hB1 : Below w.heap.size w w1 := (hB0.alloc hB0.size _).trans (hb1.mono (by have := hB0.size; simp; omega))
      refine wpAnyH_ready (rs := [12]) (by kernel_rfl) (by simp) ?_
      refine AllReadyH.cons (o := { dst := none, op := Op.store 44 (Operand.tmp 5) (Operand.tmp 16), type := 0, pos := "cache.go:41", after := #[⟨11, .data⟩, ⟨9, .data⟩, ⟨7, .chain⟩, ⟨0, .phase⟩, ⟨1, .phase⟩, ⟨2, .phase⟩, ⟨3, .phase⟩, ⟨4, .phase⟩, ⟨5, .phase⟩, ⟨6, .phase⟩, ⟨7, .phase⟩, ⟨8, .phase⟩, ⟨9, .phase⟩, { on := 10, ground := Ground.textOnly Departure.lateStores }, ⟨11, .phase⟩], guard := none }) rfl (fun K hK => ?_) AllReadyH.nil
      rw [if_pos (by kernel_rfl)]
      refine wp_store_row 44 (.tmp 5) (.tmp 16) rfl (W0.heap.size) es (by kernel_rfl) (by kernel_rfl) 44 zeroCells hr (img_info he.size) (zero_size he) he.all ?_
      refine hK.out _ _ (by rw [setRow_other _ _ _ _ (by omega)]; exact hS2) (fun hS3 => ?_)
      clear hK K
      refine tkP (i := 13) (oi := ⟨some 6, .assign (.tmp 17), 4, "cache.go:41", #[⟨10, .data⟩, ⟨12, .chain⟩, ⟨0, .phase⟩, ⟨1, .phase⟩, ⟨2, .phase⟩, ⟨3, .phase⟩, ⟨4, .phase⟩, ⟨5, .phase⟩, ⟨6, .phase⟩, ⟨7, .phase⟩, ⟨8, .phase⟩, ⟨9, .phase⟩, ⟨10, .phase⟩, ⟨11, .phase⟩, ⟨12, .phase⟩], none⟩) (v := .bool (Img.inB b)) hS3 ?_
      refine wpAnyH_done (by kernel_rfl) ?_ _
      simp only [Act.put, List.setIfInBounds_toArray, List.set_cons_zero, List.set_cons_succ]
      go_wp2_with fail
      go_meet
      exact ⟨_, es, rfl, rfl, he, setRow_heap _ _ _ _ _ _ hr, below_setRow hB1 hB0.size _⟩
  case rest =>
    obtain ⟨gx, es, rfl, rfl, he, hr, hB⟩ := hcut
    have r1 := hide hr
    have r2 := hide (show wc.heap[g]? = some (.cells (cs ++ ds) 57) by rw [hB.block _ hgl]; exact hg)
    have hle : 94 + es.size ≤ (cs ++ ds).size := by simp [he.size]; omega
    have hsp := splice_snd z1 z2 he.size
    go_wp2_with (first | (have hx := unhide r1; refine wpList_load_row rfl 44 _ rfl gx rfl 44 es (0, 0) _ hx img_under rfl (img_info he.size) ?_; clear hx r1) | (have hx := unhide r2; refine wpList_store_part rfl 44 _ _ rfl g 94 es rfl rfl 57 (cs ++ ds) hx (img_info he.size) hle he.all ?_; clear hx r2; rw [hsp]))
    go_ret
    exact ⟨es, rfl, he, Mut.of hB hgl rfl hg⟩
end Go.Proofs.YtmbpckmpnnmnmacGreat
namespace Go.Proofs.YtmbpckmpnnmnmacGreat
open Go.RowKit
set_option maxRecDepth 100000 in
set_option maxHeartbeats 2000000 in
theorem cSync_any (g : Nat) (cs ds : Array Value) (m k : Img) (hi : IsImg cs m) (hj : IsImg ds k) (w : World) (hg : w.heap[g]? = some (.cells (cs ++ ds) 57)) :
    Calls Tryz.prog 29 #[.pointer (some ⟨g, 0, none⟩)] w fun e w' => ∃ es, e = .returned (.int .i64 ((Img.syn m 8 k).1 : Nat)) ∧ IsImg es (Img.syn m 8 k).2 ∧ Mut w w' g (cs ++ es) 57 := by
  have hgl : g < w.heap.size := (Array.getElem?_eq_some_iff.1 hg).1
  obtain ⟨R, hR⟩ : ∃ R, R = Img.syn m 8 k := ⟨_, rfl⟩
  rw [← hR]
  go_enter Tryz.func29, Tryz.ntmps29
  go_wp2_with fail
  go_loopw [3] (fun i wr => ∃ (r : Nat) (es : Array Value) (K : Img), r ≤ 8 ∧ i = .int .i64 r ∧ Hid (IsImg es K) ∧ Hid (Mut w wr g (cs ++ es) 57) ∧ Hid (R.1 = (Img.syn m (8 - r) K).1 + r ∧ R.2 = (Img.syn m (8 - r) K).2)) (fun i _ => 8 - (intOf i).toNat)
  case atStart => exact ⟨0, ds, k, by omega, rfl, hide hj, hide (Mut.refl' (Below.refl _ _) hgl hg), hide ⟨by rw [hR]; rfl, by rw [hR]⟩⟩
  case round =>
    obtain ⟨r, es, K, hr, rfl, HI, HM, HR⟩ := hrel
    by_cases hlt : r < 8
    · have t8 : decide ((r : Int) < 8) = true := by simp; omega
      go_wp2_with fail
      refine (clean_any g cs es m K hi (unhide HI) _ (unhide HM).row).mono ?_
      rintro e w1 ⟨rfl, hb1⟩
      have HM1 := hide ((unhide HM).call hgl hb1)
      clear HM hb1
      cases hc : Img.sameImg m K
      · go_wp2_with fail
        go_loopw [4] (fun i wr => ∃ (j : Int) (c : Nat) (fs : Array Value) (D : Img), c ≤ 14 ∧ j = (c : Int) - 1 ∧ i = .int .i64 j ∧ Hid (IsImg fs D) ∧ Hid (Mut w wr g (cs ++ fs) 57) ∧ Hid (Img.down m D c = Img.down m K 14)) (fun i _ => (intOf i + 1).toNat)
        case atStart => exact ⟨13, 14, es, K, by omega, by omega, rfl, HI, HM1, hide rfl⟩
        case round =>
          obtain ⟨j, c, fs, D, hc14, hjc, rfl, HI2, HM2, HD⟩ := hrel
          cases c with
          | zero =>
            have tg : decide (j ≥ 0) = false := by simp; omega
            have tg2 : decide (0 ≤ j) = false := by simp; omega
            clear hjc
            have HR2 := hide (show R.1 = (Img.syn m (8 - (r + 1)) D).1 + (r + 1) ∧ R.2 = (Img.syn m (8 - (r + 1)) D).2 from by
              have h1 := unhide HR
              rw [show 8 - r = (8 - (r + 1)) + 1 by omega, Img.syn_step hc] at h1
              have h2 : D = Img.down m K 14 := unhide HD
              rw [h2]
              exact ⟨by have := h1.1; simp at this; omega, h1.2⟩)
            go_wp2_with fail
            go_roundw
            case rel => exact ⟨r + 1, fs, D, by omega, by go_num, HI2, HM2, HR2⟩
            case measure => simp [intOf]; omega
          | succ c =>
            have tg : decide (j ≥ 0) = true := by simp; omega
            have tg2 : decide (0 ≤ j) = true := by simp; omega
            have hj0 : 0 ≤ j := by omega
            have hj13 : j ≤ 13 := by omega
            have HJ := hide (show j = (c : Int) by omega)
            clear hjc
            go_wp2_with fail
            refine (cWrite_any g cs fs m D hi (unhide HI2) j _ (unhide HM2).row).mono ?_
            rintro e w2 ⟨fs2, rfl, hI3, hM3⟩
            have HM3 := hide ((unhide HM2).trans hM3)
            have HI3 := hide hI3
            have HD3 := hide (show Img.down m (Img.write m D j) c = Img.down m K 14 from by rw [unhide HJ]; exact unhide HD)
            clear HM2 hM3 hI3 HI2 HD
            go_wp2_with fail
            go_roundw
            case rel => exact ⟨_, c, fs2, _, by omega, by have := unhide HJ; omega, rfl, HI3, HM3, HD3⟩
            case measure => simp [intOf]; omega
      · have HE := hide (show R.1 = r ∧ R.2 = K from by
          have h1 := unhide HR
          rw [Img.syn_stop hc] at h1
          exact ⟨by have := h1.1; simp at this; omega, h1.2⟩)
        go_wp2_with fail
        go_ret
        exact ⟨es, by rw [(unhide HE).1]; rfl, by rw [(unhide HE).2]; exact unhide HI, unhide HM1⟩
    · have t8 : decide ((r : Int) < 8) = false := by simp; omega
      have er : r = 8 := by omega
      subst er
      have HE := hide (show R.1 = 8 ∧ R.2 = K from by
        have h1 := unhide HR
        exact ⟨by have := h1.1; simp [Img.syn] at this; omega, h1.2⟩)
      go_wp2_with fail
      go_ret
      exact ⟨es, by rw [(unhide HE).1]; rfl, by rw [(unhide HE).2]; exact unhide HI, unhide HM⟩
set_option maxHeartbeats 1000000 in
theorem first_any (f : FuncId) (cb : Array Value) (n : Nat) (p : Nat → Bool) (w : World) (eg : ∀ args w, (callFunc f args).run Tryz.prog w = .ok (.enter f args) w) (hn : n ≤ 16)
    (hf : ∀ (q i : Nat), i < n → Calls Tryz.prog f (#[.int .i64 i] ++ cb) (w.drewN q) fun e w' => e = .returned (.bool (p i)) ∧ ∃ r, w' = w.drewN r) :
    Calls Tryz.prog 129 #[.int .i64 n, .func (.func f) #[] cb] w fun e w' => e = .returned (.int .i64 (Img.firstI p n)) ∧ ∃ r, w' = w.drewN r := by
  have HF := hide hf
  clear hf
  go_enter Tryz.func129, Tryz.ntmps129
  go_wp2_with fail
  go_loopw [7] (fun i wr => ∃ k q : Nat, k ≤ n ∧ i = .int .i64 k ∧ Hid (∀ j, j < k → p j = false) ∧ wr = w.drewN q) (fun i _ => n - (intOf i).toNat)
  case atStart => exact ⟨0, 0, Nat.zero_le _, rfl, hide fun j hj => by omega, rfl⟩
  case round =>
    obtain ⟨k, q, hk, rfl, HP, rfl⟩ := hrel
    by_cases hlt : k < n
    · have tn : decide ((k : Int) < (n : Int)) = true := by simp; omega
      have hz : (k : Int) < (n : Int) := by omega
      have hc := unhide HF q k hlt
      cases hp : p k
      · rw [hp] at hc
        go_wp2_with (go_at_fn f; refine hc.mono ?_; rintro e w' ⟨rfl, nq, rfl⟩)
        go_roundw
        case rel => exact ⟨k + 1, nq, by omega, by go_num, hide fun j hj => by
          by_cases e : j = k
          · subst e; exact hp
          · exact unhide HP j (by omega), rfl⟩
        case measure => simp [intOf]; omega
      · rw [hp] at hc
        have HE := hide (Img.firstI_at hp (unhide HP) hlt)
        go_wp2_with (go_at_fn f; refine hc.mono ?_; rintro e w' ⟨rfl, nq, rfl⟩)
        go_ret
        exact ⟨by rw [unhide HE]; rfl, _, rfl⟩
    · have ek : k = n := by omega
      subst ek
      have HE := hide (Img.firstI_none (unhide HP))
      go_wp2_with fail
      go_ret
      exact ⟨by rw [unhide HE]; rfl, _, rfl⟩
end Go.Proofs.YtmbpckmpnnmnmacGreat
