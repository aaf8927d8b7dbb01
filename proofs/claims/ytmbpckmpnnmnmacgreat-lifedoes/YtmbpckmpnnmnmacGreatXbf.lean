/-
  The walks of eiderdownref's Bed: Write, Sync, FreeInode, FreeSlot, FreeData.
-/
import Derived.Test.YtmbpckmpnnmnmacGreatZz
import Derived.Test.YtmbpckmpnnmnmacGreatXbd
import Derived.Test.YtmbpckmpnnmnmacGreatXax
import Derived.Test.YtmbpckmpnnmnmacGreatXap
namespace Go.Proofs.YtmbpckmpnnmnmacGreat
open Go.RowKit
section
variable {cs ds tl : Array Value}
theorem app3_fst (h1 : cs.size = 94) : (cs ++ (ds ++ tl)).extract 0 (0 + 94) = cs := app_fst h1
theorem app3_snd (h1 : cs.size = 94) (h2 : ds.size = 94) : (cs ++ (ds ++ tl)).extract 94 (94 + 94) = ds := by
  refine Array.ext_getElem? fun i => ?_
  rw [Array.getElem?_extract]
  by_cases hi : i < 94
  · rw [if_pos (by simp; omega), Array.getElem?_append, if_neg (by omega), Array.getElem?_append, if_pos (by omega)]; congr 1; omega
  · rw [if_neg (by omega), Array.getElem?_eq_none (by omega)]
theorem splice3_snd {es : Array Value} (h1 : cs.size = 94) (h2 : ds.size = 94) (h3 : es.size = 94) : splice (cs ++ (ds ++ tl)) 94 es = cs ++ (es ++ tl) := by
  refine Array.ext_getElem? fun i => ?_
  rw [splice_get (by simp; omega), Array.getElem?_append, Array.getElem?_append, Array.getElem?_append, Array.getElem?_append]
  simp only [h1, h2, h3]
  by_cases hi : i < 94
  · rw [if_pos hi, if_pos hi, if_pos hi]
  · by_cases hj : i < 188
    · rw [if_neg hi, if_pos (by omega), if_neg hi, if_pos (by omega)]
    · rw [if_neg hi, if_neg (by omega), if_neg hi, if_neg (by omega), if_neg hi, if_neg (by omega)]
end
set_option maxRecDepth 100000 in
set_option maxHeartbeats 2000000 in
theorem bWrite_any (g : Nat) (cs ds tl : Array Value) (m k : Img) (hi : IsImg cs m) (hj : IsImg ds k) (b : Int) (w : World) (hg : w.heap[g]? = some (.cells (cs ++ (ds ++ tl)) 55)) :
    Calls Tryz.prog 41 #[.pointer (some ⟨g, 0, none⟩), .int .i64 b] w fun e w' => ∃ es, e = .returned (.bool (Img.inB b)) ∧ IsImg es (Img.write m k b) ∧ Mut w w' g (cs ++ (es ++ tl)) 55 := by
  have z1 := hi.size
  have z2 := hj.size
  have z := zero_img.1
  have hgl : g < w.heap.size := (Array.getElem?_eq_some_iff.1 hg).1
  go_enter Tryz.func41, Tryz.ntmps41
  go_wp2_with fail
  go_cut [5, 6] (fun p q wx => ∃ gx es, p = .pointer (some ⟨gx, 0, none⟩) ∧ q = .bool (Img.inB b) ∧ IsImg es (Img.write m k b) ∧ wx.heap[gx]? = some (.cells es 44) ∧ Below w.heap.size w wx)
  case first =>
    have hB0 : Below w.heap.size w w.drew := (Below.refl _ _).drew
    have hl0 : g < w.drew.heap.size := hgl
    refine wp_region_held_drew (S := fun W => W.heap[g]? = some (.cells (cs ++ (ds ++ tl)) 55)) (by kernel_rfl) hg (fun hS => ?_)
    refine tkP (i := 0) (oi := ⟨some 8, .move (.tmp 0), 27, "base.go:561", #[], none⟩) (v := .pointer (some ⟨g, 0, none⟩)) hS ?_
    refine tkP (i := 1) (oi := ⟨some 9, .nilCheck (.tmp 8), 0, "base.go:561", #[⟨0, .data⟩], none⟩) (v := .pointer (some ⟨g, 0, none⟩)) hS ?_
    refine tkP (i := 2) (oi := ⟨some 10, .fieldAddr 55 (.tmp 9) 0, 0, "base.go:561", #[⟨1, .data⟩], none⟩) (v := .pointer (some ⟨g, 0, none⟩)) hS ?_
    refine tkP (i := 3) (oi := ⟨some 11, .move (.tmp 0), 27, "base.go:561", #[], none⟩) (v := .pointer (some ⟨g, 0, none⟩)) hS ?_
    refine tkP (i := 4) (oi := ⟨some 12, .nilCheck (.tmp 11), 0, "base.go:561", #[⟨3, .data⟩], none⟩) (v := .pointer (some ⟨g, 0, none⟩)) hS ?_
    refine tkP (i := 5) (oi := ⟨some 13, .fieldAddr 55 (.tmp 12) 1, 0, "base.go:561", #[⟨4, .data⟩], none⟩) (v := .pointer (some ⟨g, 94, none⟩)) hS ?_
    refine tkP (i := 6) (oi := ⟨some 14, .move (.tmp 1), 3, "base.go:561", #[], none⟩) (v := .int .i64 b) hS ?_
    generalize w.drew = W0 at hS hB0 hl0 ⊢
    refine wpAnyH_ready (rs := [7, 11]) (by kernel_rfl) (by simp) ?_
    refine AllReadyH.cons (o := ⟨some 15, .call { callee := .value (.func 71), args := #[.tmp 10, .tmp 13, .tmp 14], argTypes := #[64, 64, 3] }, 109, "base.go:561", #[⟨2, .data⟩, ⟨5, .data⟩, ⟨6, .data⟩], none⟩) rfl (fun K hK => ?_) (AllReadyH.cons (o := ⟨some 5, .alloc 44, 0, "base.go:561", #[], none⟩) rfl (fun K hK => ?_) AllReadyH.nil)
    · skip
      go_simp
      refine (rWrite_any (ob := 0) (oc := 94) g g m k b _ (hasAt_of hS (by simp; omega) (app3_fst z1) hi) ⟨ds, _, _, hS, by simp; omega, app3_snd z1 z2, hj⟩).mono ?_
      rintro e w1 ⟨⟨es, rfl, he⟩, hb1⟩
      go_wp2_with fail
      refine hK.out _ _ (by rw [hb1.block _ hl0]; exact hS) (fun hS1 => ?_)
      clear hK K
      refine tkP (i := 8) (oi := ⟨some 7, .move (.tmp 15), 109, "base.go:561", #[⟨7, .data⟩], none⟩) (v := .tuple #[.agg es, .bool (Img.inB b)]) hS1 ?_
      refine tkP (i := 9) (oi := ⟨some 16, .extract (.tmp 7) 0, 44, "base.go:561", #[⟨8, .data⟩], none⟩) (v := .agg es) hS1 ?_
      refine tkP (i := 10) (oi := { dst := some 17, op := Op.extract (Operand.tmp 7) 1, type := 4, pos := "base.go:561", after := #[⟨8, .data⟩, { on := 12, ground := Ground.gcOnly Departure.lateStores }], guard := none }) (v := .bool (Img.inB b)) hS1 ?_
      refine wpAnyH_ready (rs := [11]) (by kernel_rfl) (by simp) ?_
      refine AllReadyH.cons (o := ⟨some 5, .alloc 44, 0, "base.go:561", #[], none⟩) rfl (fun K hK => ?_) AllReadyH.nil
      go_simp
      have hl1 : g < w1.heap.size := Nat.lt_of_lt_of_le hl0 hb1.size
      refine hK.out _ _ (by rw [Below.heap_alloc _ _ _ hl1]; exact hS1) (fun hS2 => ?_)
      clear hK K
      refine wpAnyH_ready (rs := [12]) (by kernel_rfl) (by simp) ?_
      refine AllReadyH.cons (o := { dst := none, op := Op.store 44 (Operand.tmp 5) (Operand.tmp 16), type := 0, pos := "base.go:561", after := #[⟨11, .data⟩, ⟨9, .data⟩, ⟨7, .chain⟩, ⟨0, .phase⟩, ⟨1, .phase⟩, ⟨2, .phase⟩, ⟨3, .phase⟩, ⟨4, .phase⟩, ⟨5, .phase⟩, ⟨6, .phase⟩, ⟨7, .phase⟩, ⟨8, .phase⟩, ⟨9, .phase⟩, { on := 10, ground := Ground.textOnly Departure.lateStores }, ⟨11, .phase⟩], guard := none }) rfl (fun K hK => ?_) AllReadyH.nil
      rw [if_pos (by kernel_rfl)]
      refine wp_store_row 44 (.tmp 5) (.tmp 16) rfl (w1.heap.size) es (by kernel_rfl) (by kernel_rfl) 44 zeroCells (heap_alloc_last _ _) (img_info he.size) (zero_size he) he.all ?_
      refine hK.out _ _ (by rw [setRow_other _ _ _ _ (by omega)]; exact hS2) (fun hS3 => ?_)
      clear hK K
      refine tkP (i := 13) (oi := ⟨some 6, .assign (.tmp 17), 4, "base.go:561", #[⟨10, .data⟩, ⟨12, .chain⟩, ⟨0, .phase⟩, ⟨1, .phase⟩, ⟨2, .phase⟩, ⟨3, .phase⟩, ⟨4, .phase⟩, ⟨5, .phase⟩, ⟨6, .phase⟩, ⟨7, .phase⟩, ⟨8, .phase⟩, ⟨9, .phase⟩, ⟨10, .phase⟩, ⟨11, .phase⟩, ⟨12, .phase⟩], none⟩) (v := .bool (Img.inB b)) hS3 ?_
      refine wpAnyH_done (by kernel_rfl) ?_ _
      simp only [Act.put, List.setIfInBounds_toArray, List.set_cons_zero, List.set_cons_succ]
      go_wp2_with fail
      go_meet
      exact ⟨_, es, rfl, rfl, he, setRow_heap _ _ _ _ _ _ (heap_alloc_last _ _), below_setRow ((hB0.trans (hb1.mono hB0.size)).alloc (hB0.trans (hb1.mono hB0.size)).size _) (hB0.trans (hb1.mono hB0.size)).size _⟩
    · go_simp
      refine hK.out _ _ (by rw [Below.heap_alloc _ _ _ hl0]; exact hS) (fun hS1 => ?_)
      clear hK K
      refine wpAnyH_ready (rs := [7]) (by kernel_rfl) (by simp) ?_
      refine AllReadyH.cons (o := ⟨some 15, .call { callee := .value (.func 71), args := #[.tmp 10, .tmp 13, .tmp 14], argTypes := #[64, 64, 3] }, 109, "base.go:561", #[⟨2, .data⟩, ⟨5, .data⟩, ⟨6, .data⟩], none⟩) rfl (fun K hK => ?_) AllReadyH.nil
      go_simp
      refine (rWrite_any (ob := 0) (oc := 94) g g m k b _ (hasAt_of hS1 (by simp; omega) (app3_fst z1) hi) ⟨ds, _, _, hS1, by simp; omega, app3_snd z1 z2, hj⟩).mono ?_
      rintro e w1 ⟨⟨es, rfl, he⟩, hb1⟩
      go_wp2_with fail
      refine hK.out _ _ (by rw [hb1.block _ (by simp; omega)]; exact hS1) (fun hS2 => ?_)
      clear hK K
      refine tkP (i := 8) (oi := ⟨some 7, .move (.tmp 15), 109, "base.go:561", #[⟨7, .data⟩], none⟩) (v := .tuple #[.agg es, .bool (Img.inB b)]) hS2 ?_
      refine tkP (i := 9) (oi := ⟨some 16, .extract (.tmp 7) 0, 44, "base.go:561", #[⟨8, .data⟩], none⟩) (v := .agg es) hS2 ?_
      refine tkP (i := 10) (oi := { dst := some 17, op := Op.extract (Operand.tmp 7) 1, type := 4, pos := "base.go:561", after := #[⟨8, .data⟩, { on := 12, ground := Ground.gcOnly Departure.lateStores }], guard := none }) (v := .bool (Img.inB b)) hS2 ?_
      have hr : w1.heap[W0.heap.size]? = some (.cells zeroCells 44) := by rw [hb1.block _ (by simp)]; exact heap_alloc_last _ _
      have hB1 : Below w.heap.size w w1 := (hB0.alloc hB0.size _).trans (hb1.mono (by have := hB0.size; simp; omega))
      refine wpAnyH_ready (rs := [12]) (by kernel_rfl) (by simp) ?_
      refine AllReadyH.cons (o := { dst := none, op := Op.store 44 (Operand.tmp 5) (Operand.tmp 16), type := 0, pos := "base.go:561", after := #[⟨11, .data⟩, ⟨9, .data⟩, ⟨7, .chain⟩, ⟨0, .phase⟩, ⟨1, .phase⟩, ⟨2, .phase⟩, ⟨3, .phase⟩, ⟨4, .phase⟩, ⟨5, .phase⟩, ⟨6, .phase⟩, ⟨7, .phase⟩, ⟨8, .phase⟩, ⟨9, .phase⟩, { on := 10, ground := Ground.textOnly Departure.lateStores }, ⟨11, .phase⟩], guard := none }) rfl (fun K hK => ?_) AllReadyH.nil
      rw [if_pos (by kernel_rfl)]
      refine wp_store_row 44 (.tmp 5) (.tmp 16) rfl (W0.heap.size) es (by kernel_rfl) (by kernel_rfl) 44 zeroCells hr (img_info he.size) (zero_size he) he.all ?_
      refine hK.out _ _ (by rw [setRow_other _ _ _ _ (by omega)]; exact hS2) (fun hS3 => ?_)
      clear hK K
      refine tkP (i := 13) (oi := ⟨some 6, .assign (.tmp 17), 4, "base.go:561", #[⟨10, .data⟩, ⟨12, .chain⟩, ⟨0, .phase⟩, ⟨1, .phase⟩, ⟨2, .phase⟩, ⟨3, .phase⟩, ⟨4, .phase⟩, ⟨5, .phase⟩, ⟨6, .phase⟩, ⟨7, .phase⟩, ⟨8, .phase⟩, ⟨9, .phase⟩, ⟨10, .phase⟩, ⟨11, .phase⟩, ⟨12, .phase⟩], none⟩) (v := .bool (Img.inB b)) hS3 ?_
      refine wpAnyH_done (by kernel_rfl) ?_ _
      simp only [Act.put, List.setIfInBounds_toArray, List.set_cons_zero, List.set_cons_succ]
      go_wp2_with fail
      go_meet
      exact ⟨_, es, rfl, rfl, he, setRow_heap _ _ _ _ _ _ hr, below_setRow hB1 hB0.size _⟩
  case rest =>
    obtain ⟨gx, es, rfl, rfl, he, hr, hB⟩ := hcut
    have r1 := hide hr
    have r2 := hide (show wc.heap[g]? = some (.cells (cs ++ (ds ++ tl)) 55) by rw [hB.block _ hgl]; exact hg)
    have hle : 94 + es.size ≤ (cs ++ (ds ++ tl)).size := by simp [he.size]; omega
    have hsp := splice3_snd (tl := tl) z1 z2 he.size
    go_wp2_with (first | (have hx := unhide r1; refine wpList_load_row rfl 44 _ rfl gx rfl 44 es (0, 0) _ hx img_under rfl (img_info he.size) ?_; clear hx r1) | (have hx := unhide r2; refine wpList_store_part rfl 44 _ _ rfl g 94 es rfl rfl 55 (cs ++ (ds ++ tl)) hx (img_info he.size) hle he.all ?_; clear hx r2; rw [hsp]))
    go_ret
    exact ⟨es, rfl, he, Mut.of hB hgl rfl hg⟩
set_option maxRecDepth 100000 in
set_option maxHeartbeats 2000000 in
theorem bSync_any (g : Nat) (cs ds tl : Array Value) (m k : Img) (hi : IsImg cs m) (hj : IsImg ds k) (w : World) (hg : w.heap[g]? = some (.cells (cs ++ (ds ++ tl)) 55)) :
    Calls Tryz.prog 42 #[.pointer (some ⟨g, 0, none⟩)] w fun e w' => ∃ es, e = .returned (.int .i64 ((Img.syn m 8 k).1 : Nat)) ∧ IsImg es (Img.syn m 8 k).2 ∧ Mut w w' g (cs ++ (es ++ tl)) 55 := by
  have hgl : g < w.heap.size := (Array.getElem?_eq_some_iff.1 hg).1
  have z1 := hi.size
  obtain ⟨R, hR⟩ : ∃ R, R = Img.syn m 8 k := ⟨_, rfl⟩
  rw [← hR]
  go_enter Tryz.func42, Tryz.ntmps42
  go_wp2_with fail
  go_loopw [3] (fun i wr => ∃ (r : Nat) (es : Array Value) (K : Img), r ≤ 8 ∧ i = .int .i64 r ∧ Hid (IsImg es K) ∧ Hid (Mut w wr g (cs ++ (es ++ tl)) 55) ∧ Hid (R.1 = (Img.syn m (8 - r) K).1 + r ∧ R.2 = (Img.syn m (8 - r) K).2)) (fun i _ => 8 - (intOf i).toNat)
  case atStart => exact ⟨0, ds, k, by omega, rfl, hide hj, hide (Mut.refl' (Below.refl _ _) hgl hg), hide ⟨by rw [hR]; rfl, by rw [hR]⟩⟩
  case round =>
    obtain ⟨r, es, K, hr, rfl, HI, HM, HR⟩ := hrel
    by_cases hlt : r < 8
    · have t8 : decide ((r : Int) < 8) = true := by simp; omega
      have q := eqlImg hi (unhide HI)
      have ze := (unhide HI).size
      have HMd := hide ((unhide HM).call hgl (Below.refl _ _).drew)
      go_wp2_with fail
      refine wp_region_held_drew (S := fun W => W.heap[g]? = some (.cells (cs ++ (es ++ tl)) 55)) (by kernel_rfl) (unhide HM).row (fun hS => ?_)
      refine tkP (i := 0) (oi := ⟨some 9, .move (.tmp 0), 27, "base.go:569", #[], none⟩) (v := .pointer (some ⟨g, 0, none⟩)) hS ?_
      refine tkP (i := 1) (oi := ⟨some 10, .nilCheck (.tmp 9), 0, "base.go:569", #[⟨0, .data⟩], none⟩) (v := .pointer (some ⟨g, 0, none⟩)) hS ?_
      refine tkP (i := 2) (oi := ⟨some 11, .fieldAddr 55 (.tmp 10) 0, 0, "base.go:569", #[⟨1, .data⟩], none⟩) (v := .pointer (some ⟨g, 0, none⟩)) hS ?_
      refine tkH (i := 3) (oi := ⟨some 12, .load 44 (.tmp 11), 44, "base.go:569", #[⟨2, .data⟩], none⟩) (v := .agg cs) (fun W h => run_exec_load_part 44 (.tmp 11) (by kernel_rfl) g 0 94 (by kernel_rfl) W 55 (cs ++ (es ++ tl)) cs _ h img_under rfl zero_img.2 (by simp; omega) (app3_fst z1)) hS ?_
      refine tkP (i := 4) (oi := ⟨some 13, .move (.tmp 0), 27, "base.go:569", #[], none⟩) (v := .pointer (some ⟨g, 0, none⟩)) hS ?_
      refine tkP (i := 5) (oi := ⟨some 14, .nilCheck (.tmp 13), 0, "base.go:569", #[⟨4, .data⟩], none⟩) (v := .pointer (some ⟨g, 0, none⟩)) hS ?_
      refine tkP (i := 6) (oi := ⟨some 15, .fieldAddr 55 (.tmp 14) 1, 0, "base.go:569", #[⟨5, .data⟩], none⟩) (v := .pointer (some ⟨g, 94, none⟩)) hS ?_
      refine tkH (i := 7) (oi := ⟨some 16, .load 44 (.tmp 15), 44, "base.go:569", #[⟨6, .data⟩], none⟩) (v := .agg es) (fun W h => run_exec_load_part 44 (.tmp 15) (by kernel_rfl) g 94 94 (by kernel_rfl) W 55 (cs ++ (es ++ tl)) es _ h img_under rfl zero_img.2 (by simp; omega) (app3_snd z1 ze)) hS ?_
      refine tkH (i := 8) (oi := ⟨some 17, .binOp .eql 44 (.tmp 12) (.tmp 16) 44, 4, "base.go:569", #[⟨3, .data⟩, ⟨7, .data⟩], none⟩) (v := .bool (Img.sameImg m K)) (fun W h => run_exec_eql 44 44 (.tmp 12) (.tmp 16) (by kernel_rfl) cs es (by kernel_rfl) (by kernel_rfl) _ Tryz.eqGuardType44 q W) hS ?_
      refine wpAnyH_done (by kernel_rfl) ?_ _
      simp only [Act.put, List.setIfInBounds_toArray, List.set_cons_zero, List.set_cons_succ]
      have HM1 := HMd
      clear HM HMd q
      cases hc : Img.sameImg m K
      · go_wp2_with fail
        go_loopw [4] (fun i wr => ∃ (j : Int) (c : Nat) (fs : Array Value) (D : Img), c ≤ 14 ∧ j = (c : Int) - 1 ∧ i = .int .i64 j ∧ Hid (IsImg fs D) ∧ Hid (Mut w wr g (cs ++ (fs ++ tl)) 55) ∧ Hid (Img.down m D c = Img.down m K 14)) (fun i _ => (intOf i + 1).toNat)
        case atStart => exact ⟨13, 14, es, K, by omega, by omega, rfl, HI, HM1, hide rfl⟩
        case round =>
          obtain ⟨j, c, fs, D, hc14, hjc, rfl, HI2, HM2, HD⟩ := hrel
          cases c with
          | zero =>
            have tg : decide (j ≥ 0) = false := by simp; omega
            have tg2 : decide (0 ≤ j) = false := by simp; omega
            clear hjc
            have HR2 := hide (show R.1 = (Img.syn m (8 - (r + 1)) D).1 + (r + 1) ∧ R.2 = (Img.syn m (8 - (r + 1)) D).2 from by
              have h1 := unhide HR
              rw [show 8 - r = (8 - (r + 1)) + 1 by omega, Img.syn_step hc] at h1
              have h2 : D = Img.down m K 14 := unhide HD
              rw [h2]
              exact ⟨by have := h1.1; simp at this; omega, h1.2⟩)
            go_wp2_with fail
            go_roundw
            case rel => exact ⟨r + 1, fs, D, by omega, by go_num, HI2, HM2, HR2⟩
            case measure => simp [intOf]; omega
          | succ c =>
            have tg : decide (j ≥ 0) = true := by simp; omega
            have tg2 : decide (0 ≤ j) = true := by simp; omega
            have hj0 : 0 ≤ j := by omega
            have hj13 : j ≤ 13 := by omega
            have HJ := hide (show j = (c : Int) by omega)
            clear hjc
            go_wp2_with fail
            refine (bWrite_any g cs fs tl m D hi (unhide HI2) j _ (unhide HM2).row).mono ?_
            rintro e w2 ⟨fs2, rfl, hI3, hM3⟩
            have HM3 := hide ((unhide HM2).trans hM3)
            have HI3 := hide hI3
            have HD3 := hide (show Img.down m (Img.write m D j) c = Img.down m K 14 from by rw [unhide HJ]; exact unhide HD)
            clear HM2 hM3 hI3 HI2 HD
            go_wp2_with fail
            go_roundw
            case rel => exact ⟨_, c, fs2, _, by omega, by have := unhide HJ; omega, rfl, HI3, HM3, HD3⟩
            case measure => simp [intOf]; omega
      · have HE := hide (show R.1 = r ∧ R.2 = K from by
          have h1 := unhide HR
          rw [Img.syn_stop hc] at h1
          exact ⟨by have := h1.1; simp at this; omega, h1.2⟩)
        go_wp2_with fail
        go_ret
        exact ⟨es, by rw [(unhide HE).1]; rfl, by rw [(unhide HE).2]; exact unhide HI, unhide HM1⟩
    · have t8 : decide ((r : Int) < 8) = false := by simp; omega
      have er : r = 8 := by omega
      subst er
      have HE := hide (show R.1 = 8 ∧ R.2 = K from by
        have h1 := unhide HR
        exact ⟨by have := h1.1; simp [Img.syn] at this; omega, h1.2⟩)
      go_wp2_with fail
      go_ret
      exact ⟨es, by rw [(unhide HE).1]; rfl, by rw [(unhide HE).2]; exact unhide HI, unhide HM⟩
set_option maxHeartbeats 1000000 in
theorem bIno_any (g : Nat) (m k : Img) (w : World) (hm : HasAt w g 0 m) (hk : HasAt w g 94 k) :
    Calls Tryz.prog 74 #[.pointer (some ⟨g, 0, none⟩)] w fun e w' => e = .returned (.int .i64 (Img.freeIno m k)) ∧ w' = w := by
  have E : Img.freeIno m k = Img.firstI (fun n => !m.live n && (k.refs (n : Int) == 0)) 8 := rfl
  rw [E]
  clear E
  have hl := hm.lt
  go_enter Tryz.func74, Tryz.ntmps74
  go_wp2_with fail
  go_loop [3] (fun i => ∃ n : Nat, n ≤ 8 ∧ i = .int .i64 n ∧ Hid (∀ j, j < n → (!m.live j && (k.refs (j : Int) == 0)) = false)) (fun i => 8 - (intOf i).toNat)
  case atStart => exact ⟨0, by omega, rfl, hide fun j hj => by omega⟩
  case round =>
    obtain ⟨n, hn, rfl, HP⟩ := hrel
    by_cases hlt : n < 8
    · have t8 : decide ((n : Int) < 8) = true := by simp; omega
      have fl := hm.live n hlt
      rw [Nat.zero_add] at fl
      have C := hide (At.rLeads_any g k (n : Int) w hk)
      have NX := hide (fun (h : (!m.live n && (k.refs (n : Int) == 0)) = false) => forall_succ (p := fun j => (!m.live j && (k.refs (j : Int) == 0)) = false) (unhide HP) h)
      cases h1 : m.live n
      · rw [h1] at fl
        cases h2 : (k.refs (n : Int) == 0)
        · have W := hide (unhide NX (by simp only [h1, h2]; rfl))
          have h3 : ((k.refs (n : Int) : Nat) : Int) ≠ 0 := by simp at h2; omega
          generalize ((k.refs (n : Int) : Nat) : Int) = rr at C h3
          have h4 : (rr == 0) = false := by simpa using h3
          clear h2 h3 NX
          go_wp2_with fail
          refine (unhide C).mono ?_
          rintro e wz ⟨rfl, ez⟩
          rw [ez]
          clear ez wz C
          go_wp2_with fail
          exact ⟨⟨n + 1, by omega, by go_num, W⟩, by simp [intOf]; omega⟩
        · have HE := hide (Img.firstI_at (p := fun n => !m.live n && (k.refs (n : Int) == 0)) (by simp only [h1, h2]; rfl) (unhide HP) hlt)
          have h3 : k.refs (n : Int) = 0 := by simpa using h2
          rw [h3] at C
          clear h2 h3 NX
          go_wp2_with fail
          refine (unhide C).mono ?_
          rintro e wz ⟨rfl, ez⟩
          rw [ez]
          clear ez wz C
          go_wp2_with fail
          go_ret
          exact ⟨by rw [unhide HE]; rfl, rfl⟩
      · rw [h1] at fl
        have W := hide (unhide NX (by simp only [h1]; rfl))
        clear NX C
        go_wp2_with fail
        exact ⟨⟨n + 1, by omega, by go_num, W⟩, by simp [intOf]; omega⟩
    · have t8 : decide ((n : Int) < 8) = false := by simp; omega
      have HE := hide (Img.firstI_none (p := fun n => !m.live n && (k.refs (n : Int) == 0)) (n := 8) (fun j hj => unhide HP j (by omega)))
      go_wp2_with fail
      go_ret
      exact ⟨by rw [unhide HE]; rfl, rfl⟩
set_option maxHeartbeats 1000000 in
theorem bData_any (g : Nat) (m k : Img) (w : World) (hm : HasAt w g 0 m) (hk : HasAt w g 94 k) :
    Calls Tryz.prog 77 #[.pointer (some ⟨g, 0, none⟩)] w fun e w' => e = .returned (.int .i64 (Img.freeData m k)) ∧ w' = w := by
  have E : Img.freeData m k = Img.firstI (fun x => !m.holds (x : Int) && !k.holds (x : Int)) 9 := rfl
  rw [E]
  clear E
  have hl := hm.lt
  go_enter Tryz.func77, Tryz.ntmps77
  go_wp2_with fail
  go_loop [3] (fun i => ∃ n : Nat, n ≤ 9 ∧ i = .int .i64 n ∧ Hid (∀ j, j < n → (!m.holds (j : Int) && !k.holds (j : Int)) = false)) (fun i => 9 - (intOf i).toNat)
  case atStart => exact ⟨0, by omega, rfl, hide fun j hj => by omega⟩
  case round =>
    obtain ⟨n, hn, rfl, HP⟩ := hrel
    by_cases hlt : n < 9
    · have t9 : decide ((n : Int) < 9) = true := by simp; omega
      have C1 := hide (rHeld_any g m (n : Int) w hm)
      have C2 := hide (rHeld_any g k (n : Int) w hk)
      rw [Img.held_isD hlt] at C1 C2
      have NX := hide (fun (h : (!m.holds (n : Int) && !k.holds (n : Int)) = false) => forall_succ (p := fun j => (!m.holds (j : Int) && !k.holds (j : Int)) = false) (unhide HP) h)
      cases h1 : m.holds (n : Int)
      · rw [h1] at C1
        cases h2 : k.holds (n : Int)
        · rw [h2] at C2
          have HE := hide (Img.firstI_at (p := fun x => !m.holds (x : Int) && !k.holds (x : Int)) (by simp only [h1, h2]; rfl) (unhide HP) hlt)
          clear NX
          go_wp2_with fail
          refine (unhide C1).mono ?_
          rintro e wz ⟨rfl, ez⟩
          rw [ez]
          clear ez wz C1
          go_wp2_with fail
          refine (unhide C2).mono ?_
          rintro e wz ⟨rfl, ez⟩
          rw [ez]
          clear ez wz C2
          go_wp2_with fail
          go_ret
          exact ⟨by rw [unhide HE]; rfl, rfl⟩
        · rw [h2] at C2
          have W := hide (unhide NX (by simp only [h1, h2]; rfl))
          clear NX
          go_wp2_with fail
          refine (unhide C1).mono ?_
          rintro e wz ⟨rfl, ez⟩
          rw [ez]
          clear ez wz C1
          go_wp2_with fail
          refine (unhide C2).mono ?_
          rintro e wz ⟨rfl, ez⟩
          rw [ez]
          clear ez wz C2
          go_wp2_with fail
          exact ⟨⟨n + 1, by omega, by go_num, W⟩, by simp [intOf]; omega⟩
      · rw [h1] at C1
        have W := hide (unhide NX (by simp only [h1]; rfl))
        clear NX
        go_wp2_with fail
        refine (unhide C1).mono ?_
        rintro e wz ⟨rfl, ez⟩
        rw [ez]
        clear ez wz C1
        go_wp2_with fail
        exact ⟨⟨n + 1, by omega, by go_num, W⟩, by simp [intOf]; omega⟩
    · have t9 : decide ((n : Int) < 9) = false := by simp; omega
      have HE := hide (Img.firstI_none (p := fun x => !m.holds (x : Int) && !k.holds (x : Int)) (n := 9) (fun j hj => unhide HP j (by omega)))
      go_wp2_with fail
      go_ret
      exact ⟨by rw [unhide HE]; rfl, rfl⟩
set_option maxHeartbeats 1000000 in
theorem bSlot_any (g : Nat) (m k : Img) (d : Int) (w : World) (hm : HasAt w g 0 m) (hk : HasAt w g 94 k) :
    Calls Tryz.prog 105 #[.pointer (some ⟨g, 0, none⟩), .int .i64 d] w fun e w' => e = .returned (.int .i64 (Img.freeSlot m k d)) ∧ ∃ q, w' = w.drewN q := by
  have hl := hm.lt
  by_cases hd : 0 ≤ d ∧ d < 3
  · obtain ⟨e, rfl⟩ := Int.eq_ofNat_of_zero_le hd.1
    have he : e < 3 := by omega
    have E : Img.freeSlot m k (e : Int) = Img.firstI (fun s => !m.named e s && !k.named e s) 4 := by unfold Img.freeSlot; rw [if_pos hd, Int.toNat_natCast]
    rw [E]
    have t1 : decide ((e : Int) < 0) = false := by simp
    have t2 : decide (3 ≤ (e : Int)) = false := by simp; omega
    have t3 : decide ((e : Int) ≥ 3) = false := by simp; omega
    have hez : (e : Int) < 3 := by omega
    clear E hd
    go_enter Tryz.func105, Tryz.ntmps105
    go_wp2_with fail
    go_loopw [5] (fun i wr => ∃ s q : Nat, s ≤ 4 ∧ i = .int .i64 s ∧ Hid (∀ j, j < s → (!m.named e j && !k.named e j) = false) ∧ wr = w.drewN q) (fun i _ => 4 - (intOf i).toNat)
    case atStart => exact ⟨0, 0, by omega, rfl, hide fun j hj => by omega, rfl⟩
    case round =>
      obtain ⟨s, q, hs, rfl, HP, rfl⟩ := hrel
      by_cases hlt : s < 4
      · have t4 : decide ((s : Int) < 4) = true := by simp; omega
        have n1 := hm.name e s he hlt
        rw [Nat.zero_add] at n1
        have n2 := hk.name e s he hlt
        rw [show 94 + 40 = 134 from rfl] at n2
        have NX := hide (fun (h : (!m.named e s && !k.named e s) = false) => forall_succ (p := fun j => (!m.named e j && !k.named e j) = false) (unhide HP) h)
        have E1 := hide (show m.named e s = !(m.name e s).toList.isEmpty from rfl)
        have E2 := hide (show k.named e s = !(k.name e s).toList.isEmpty from rfl)
        cases h1 : (m.name e s).toList.isEmpty
        · have W := hide (unhide NX (by simp only [unhide E1, h1]; rfl))
          go_wp2_with fail
          try (go_quiet (fail); go_wp2_with fail)
          go_roundw
          case rel => exact ⟨s + 1, _, by omega, by go_num, W, by first | rfl | exact drewNs⟩
          case measure => simp [intOf]; omega
        · cases h2 : (k.name e s).toList.isEmpty
          · have W := hide (unhide NX (by simp only [unhide E1, unhide E2, h1, h2]; rfl))
            go_wp2_with fail
            try (go_quiet (fail); go_wp2_with fail)
            go_roundw
            case rel => exact ⟨s + 1, _, by omega, by go_num, W, by first | rfl | exact drewNs⟩
            case measure => simp [intOf]; omega
          · have HE := hide (Img.firstI_at (p := fun s => !m.named e s && !k.named e s) (by simp only [unhide E1, unhide E2, h1, h2]; rfl) (unhide HP) hlt)
            go_wp2_with fail
            try (go_quiet (fail); go_wp2_with fail)
            go_ret
            exact ⟨by rw [unhide HE]; rfl, by first | exact ⟨_, rfl⟩ | exact ⟨_, drewNs⟩⟩
      · have t4 : decide ((s : Int) < 4) = false := by simp; omega
        have HE := hide (Img.firstI_none (p := fun s => !m.named e s && !k.named e s) (n := 4) (fun j hj => unhide HP j (by omega)))
        go_wp2_with fail
        go_ret
        exact ⟨by rw [unhide HE]; rfl, _, rfl⟩
  · have E : Img.freeSlot m k d = -1 := by unfold Img.freeSlot; rw [if_neg hd]
    rw [E]
    clear E
    by_cases h0 : d < 0
    · have t1 : decide (d < 0) = true := by simpa using h0
      clear h0 hd
      go_enter Tryz.func105, Tryz.ntmps105
      go_wp2_with fail
      go_ret
      exact ⟨rfl, 0, rfl⟩
    · have t1 : decide (d < 0) = false := by simpa using h0
      have t2 : decide (3 ≤ d) = true := by simp; omega
      have t3 : decide (d ≥ 3) = true := by simp; omega
      clear h0 hd
      go_enter Tryz.func105, Tryz.ntmps105
      go_wp2_with fail
      go_ret
      exact ⟨rfl, 0, rfl⟩
end Go.Proofs.YtmbpckmpnnmnmacGreat
namespace Go.Proofs.YtmbpckmpnnmnmacGreat
open Go.RowKit
open Idl (Stp chk stpA)
namespace Sft
def bedTail : Array Value := #[.int .i64 0, .int .i64 0, .int .i64 0, .int .i64 0, .int .i64 0]
theorem fill_bed {z cs ds tl : Array Value} {pl : Nat → Option (Nat × Nat)} (p0 : pl 0 = some (0, 94)) (p1 : pl 1 = some (94, 94)) (hz : z.size = 188 + tl.size) (ht : ∀ i, 188 ≤ i → z[i]? = tl[i - 188]?) (h1 : cs.size = 94) (h2 : ds.size = 94) : Instr.fill pl z [(0, .agg cs), (1, .agg ds)] = some (cs ++ (ds ++ tl)) := by
  have s1 := foldSet_size cs 0 z (by omega)
  have s2 := foldSet_size ds 94 (cs.zipIdx.foldl (fun cs (p : Value × Nat) => cs.setIfInBounds (0 + p.2) p.1) z) (by omega)
  rw [fill_cons (i := 0) (vs := cs) (off := 0) (size := 94) p0 rfl h1 (by omega), fill_cons (i := 1) (vs := ds) (off := 94) (size := 94) p1 rfl h2 (by omega)]
  show some _ = some _
  congr 1
  refine Array.ext_getElem? fun i => ?_
  rw [foldSet_get ds 94 _ (by rw [s1]; omega), foldSet_get cs 0 z (by omega), Array.getElem?_append, Array.getElem?_append]
  by_cases hi : i < 94
  · rw [if_neg (by omega), if_pos (by omega), if_pos (by omega)]; simp
  · by_cases hj : i < 188
    · rw [if_pos (by omega), if_neg (by omega), if_pos (by omega), h1]
    · rw [if_neg (by omega), if_neg (by omega), if_neg (by omega), if_neg (by omega), ht i (by omega), h1, h2, show i - 188 = i - 94 - 94 by omega]
theorem bed_built (parts : List (Nat × Value)) : Tryz.prog.built 55 parts = Instr.fill (fun i => #[(0, 94), (94, 94), (188, 1), (189, 1), (190, 1), (191, 1), (192, 1)][i]?) (zeroCells ++ (zeroCells ++ bedTail)) parts := by kernel_rfl
theorem built_bed {cs ds : Array Value} (h1 : cs.size = 94) (h2 : ds.size = 94) : Tryz.prog.built 55 [(0, .agg cs), (1, .agg ds)] = some (cs ++ (ds ++ bedTail)) := by
  rw [bed_built]
  have zs : zeroCells.size = 94 := size_newTo 0
  refine fill_bed rfl rfl (by simp [zs]; omega) (fun i hi => ?_) h1 h2
  rw [Array.getElem?_append, if_neg (by omega), Array.getElem?_append, if_neg (by omega), zs, show i - 94 - 94 = i - 188 by omega]
end Sft
section
variable {w W W' W2 : World} {bf bc gb : Nat} {m k k' : Img} {last : Int}
end
end Go.Proofs.YtmbpckmpnnmnmacGreat
