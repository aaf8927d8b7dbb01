/-
  The walks of eiderdownref's Bed: Write, Sync, FreeInode, FreeSlot, FreeData.
-/
import Derived.Test.YtmlhalhjfcfagabGreatYk
import Derived.Test.YtmlhalhjfcfagabGreatYd
import Derived.Test.YtmlhalhjfcfagabGreatYf
namespace Go.Proofs.YtmlhalhjfcfagabGreat
open Go.RowKit
section
variable {cs ds tl : Array Value}
theorem app3_fst (h1 : cs.size = 94) : (cs ++ (ds ++ tl)).extract 0 (0 + 94) = cs := app_fst h1
theorem app3_snd (h1 : cs.size = 94) (h2 : ds.size = 94) : (cs ++ (ds ++ tl)).extract 94 (94 + 94) = ds := by
  refine Array.ext_getElem? fun i => ?_
  rw [Array.getElem?_extract]
  by_cases hi : i < 94
  · rw [if_pos (by simp; omega), Array.getElem?_append, if_neg (by omega), Array.getElem?_append, if_pos (by omega)]; congr 1; omega
  · rw [if_neg (by omega), Array.getElem?_eq_none (by omega)]
theorem splice3_snd {es : Array Value} (h1 : cs.size = 94) (h2 : ds.size = 94) (h3 : es.size = 94) : splice (cs ++ (ds ++ tl)) 94 es = cs ++ (es ++ tl) := by
  refine Array.ext_getElem? fun i => ?_
  rw [splice_get (by simp; omega), Array.getElem?_append, Array.getElem?_append, Array.getElem?_append, Array.getElem?_append]
  simp only [h1, h2, h3]
  by_cases hi : i < 94
  · rw [if_pos hi, if_pos hi, if_pos hi]
  · by_cases hj : i < 188
    · rw [if_neg hi, if_pos (by omega), if_neg hi, if_pos (by omega)]
    · rw [if_neg hi, if_neg (by omega), if_neg hi, if_neg (by omega), if_neg hi, if_neg (by omega)]
end
set_option maxRecDepth 100000 in
set_option maxHeartbeats 2000000 in
theorem bWrite_any (g : Nat) (cs ds tl : Array Value) (m k : Img) (hi : IsImg cs m) (hj : IsImg ds k) (b : Int) (w : World) (hg : w.heap[g]? = some (.cells (cs ++ (ds ++ tl)) 48)) :
    Calls Tryz.prog 49 #[.pointer (some ⟨g, 0, none⟩), .int .i64 b] w fun e w' => ∃ es, e = .returned (.bool (Img.inB b)) ∧ IsImg es (Img.write m k b) ∧ Mut w w' g (cs ++ (es ++ tl)) 48 := by
  have z1 := hi.size
  have z2 := hj.size
  have z := zero_img.1
  have hgl : g < w.heap.size := (Array.getElem?_eq_some_iff.1 hg).1
  go_enter Tryz.func49, Tryz.ntmps49
  go_wp2_with fail
  go_cut [5, 6] (fun p q wx => ∃ gx es, p = .pointer (some ⟨gx, 0, none⟩) ∧ q = .bool (Img.inB b) ∧ IsImg es (Img.write m k b) ∧ wx.heap[gx]? = some (.cells es 34) ∧ Below w.heap.size w wx)
  case first =>
    have hB0 : Below w.heap.size w w.drew := (Below.refl _ _).drew
    have hl0 : g < w.drew.heap.size := hgl
    refine wp_region_held_drew (S := fun W => W.heap[g]? = some (.cells (cs ++ (ds ++ tl)) 48)) (by kernel_rfl) hg (fun hS => ?_)
    refine wpAnyH_take (i := 0) (oi := { dst := some 8, op := Op.move (Operand.tmp 0), type := 44, pos := "base.go:561", after := #[], guard := none }) (v := .pointer (some ⟨g, 0, none⟩)) rfl (by kernel_rfl) (by kernel_rfl) (by kernel_rfl) (fun _ _ _ h => h) (Or.inl ⟨by kernel_rfl, fun W h => (by first | kernel_rfl | go_simp)⟩) hS ?_
    refine wpAnyH_take (i := 1) (oi := { dst := some 9, op := Op.nilCheck (Operand.tmp 8), type := 0, pos := "base.go:561", after := #[{ on := 0, ground := Ground.data }], guard := none }) (v := .pointer (some ⟨g, 0, none⟩)) rfl (by kernel_rfl) (by kernel_rfl) (by kernel_rfl) (fun _ _ _ h => h) (Or.inl ⟨by kernel_rfl, fun W h => (by first | kernel_rfl | go_simp)⟩) hS ?_
    refine wpAnyH_take (i := 2) (oi := { dst := some 10, op := Op.fieldAddr 48 (Operand.tmp 9) 0, type := 0, pos := "base.go:561", after := #[{ on := 1, ground := Ground.data }], guard := none }) (v := .pointer (some ⟨g, 0, none⟩)) rfl (by kernel_rfl) (by kernel_rfl) (by kernel_rfl) (fun _ _ _ h => h) (Or.inl ⟨by kernel_rfl, fun W h => (by first | kernel_rfl | go_simp)⟩) hS ?_
    refine wpAnyH_take (i := 3) (oi := { dst := some 11, op := Op.move (Operand.tmp 0), type := 44, pos := "base.go:561", after := #[], guard := none }) (v := .pointer (some ⟨g, 0, none⟩)) rfl (by kernel_rfl) (by kernel_rfl) (by kernel_rfl) (fun _ _ _ h => h) (Or.inl ⟨by kernel_rfl, fun W h => (by first | kernel_rfl | go_simp)⟩) hS ?_
    refine wpAnyH_take (i := 4) (oi := { dst := some 12, op := Op.nilCheck (Operand.tmp 11), type := 0, pos := "base.go:561", after := #[{ on := 3, ground := Ground.data }], guard := none }) (v := .pointer (some ⟨g, 0, none⟩)) rfl (by kernel_rfl) (by kernel_rfl) (by kernel_rfl) (fun _ _ _ h => h) (Or.inl ⟨by kernel_rfl, fun W h => (by first | kernel_rfl | go_simp)⟩) hS ?_
    refine wpAnyH_take (i := 5) (oi := { dst := some 13, op := Op.fieldAddr 48 (Operand.tmp 12) 1, type := 0, pos := "base.go:561", after := #[{ on := 4, ground := Ground.data }], guard := none }) (v := .pointer (some ⟨g, 94, none⟩)) rfl (by kernel_rfl) (by kernel_rfl) (by kernel_rfl) (fun _ _ _ h => h) (Or.inl ⟨by kernel_rfl, fun W h => (by first | kernel_rfl | go_simp)⟩) hS ?_
    refine wpAnyH_take (i := 6) (oi := { dst := some 14, op := Op.move (Operand.tmp 1), type := 3, pos := "base.go:561", after := #[], guard := none }) (v := .int .i64 b) rfl (by kernel_rfl) (by kernel_rfl) (by kernel_rfl) (fun _ _ _ h => h) (Or.inl ⟨by kernel_rfl, fun W h => (by first | kernel_rfl | go_simp)⟩) hS ?_
    generalize w.drew = W0 at hS hB0 hl0 ⊢
    refine wpAnyH_ready (rs := [7, 11]) (by kernel_rfl) (by simp) ?_
    refine AllReadyH.cons (o := { dst := some 15, op := Op.call { callee := Callee.value (Operand.func 70), args := #[Operand.tmp 10, Operand.tmp 13, Operand.tmp 14], argTypes := #[50, 50, 3] }, type := 92, pos := "base.go:561", after := #[{ on := 2, ground := Ground.data }, { on := 5, ground := Ground.data }, { on := 6, ground := Ground.data }], guard := none }) rfl (fun K hK => ?_) (AllReadyH.cons (o := { dst := some 5, op := Op.alloc 34, type := 0, pos := "base.go:561", after := #[], guard := none }) rfl (fun K hK => ?_) AllReadyH.nil)
    · skip
      go_simp
      refine (rWrite_any (ob := 0) (oc := 94) g g m k b _ (hasAt_of hS (by simp; omega) (app3_fst z1) hi) ⟨ds, _, _, hS, by simp; omega, app3_snd z1 z2, hj⟩).mono ?_
      rintro e w1 ⟨⟨es, rfl, he⟩, hb1⟩
      go_wp2_with fail
      refine hK.out _ _ (by rw [hb1.block _ hl0]; exact hS) (fun hS1 => ?_)
      clear hK K
      refine wpAnyH_take (i := 8) (oi := { dst := some 7, op := Op.move (Operand.tmp 15), type := 92, pos := "base.go:561", after := #[{ on := 7, ground := Ground.data }], guard := none }) (v := .tuple #[.agg es, .bool (Img.inB b)]) rfl (by kernel_rfl) (by kernel_rfl) (by kernel_rfl) (fun _ _ _ h => h) (Or.inl ⟨by kernel_rfl, fun W h => (by first | kernel_rfl | go_simp)⟩) hS1 ?_
      refine wpAnyH_take (i := 9) (oi := { dst := some 16, op := Op.extract (Operand.tmp 7) 0, type := 34, pos := "base.go:561", after := #[{ on := 8, ground := Ground.data }], guard := none }) (v := .agg es) rfl (by kernel_rfl) (by kernel_rfl) (by kernel_rfl) (fun _ _ _ h => h) (Or.inl ⟨by kernel_rfl, fun W h => (by first | kernel_rfl | go_simp)⟩) hS1 ?_
      refine wpAnyH_take (i := 10) (oi := { dst := some 17, op := Op.extract (Operand.tmp 7) 1, type := 4, pos := "base.go:561", after := #[{ on := 8, ground := Ground.data }, { on := 12, ground := Ground.gcOnly Departure.lateStores }], guard := none }) (v := .bool (Img.inB b)) rfl (by kernel_rfl) (by kernel_rfl) (by kernel_rfl) (fun _ _ _ h => h) (Or.inl ⟨by kernel_rfl, fun W h => (by first | kernel_rfl | go_simp)⟩) hS1 ?_
      refine wpAnyH_ready (rs := [11]) (by kernel_rfl) (by simp) ?_
      refine AllReadyH.cons (o := { dst := some 5, op := Op.alloc 34, type := 0, pos := "base.go:561", after := #[], guard := none }) rfl (fun K hK => ?_) AllReadyH.nil
      go_simp
      have hl1 : g < w1.heap.size := Nat.lt_of_lt_of_le hl0 hb1.size
      refine hK.out _ _ (by rw [Below.heap_alloc _ _ _ hl1]; exact hS1) (fun hS2 => ?_)
      clear hK K
      refine wpAnyH_ready (rs := [12]) (by kernel_rfl) (by simp) ?_
      refine AllReadyH.cons (o := { dst := none, op := Op.store 34 (Operand.tmp 5) (Operand.tmp 16), type := 0, pos := "base.go:561", after := #[{ on := 11, ground := Ground.data }, { on := 9, ground := Ground.data }, { on := 7, ground := Ground.chain }, { on := 0, ground := Ground.phase }, { on := 1, ground := Ground.phase }, { on := 2, ground := Ground.phase }, { on := 3, ground := Ground.phase }, { on := 4, ground := Ground.phase }, { on := 5, ground := Ground.phase }, { on := 6, ground := Ground.phase }, { on := 7, ground := Ground.phase }, { on := 8, ground := Ground.phase }, { on := 9, ground := Ground.phase }, { on := 10, ground := Ground.textOnly Departure.lateStores }, { on := 11, ground := Ground.phase }], guard := none }) rfl (fun K hK => ?_) AllReadyH.nil
      rw [if_pos (by kernel_rfl)]
      refine wp_store_row 34 (.tmp 5) (.tmp 16) rfl (w1.heap.size) es (by kernel_rfl) (by kernel_rfl) 34 zeroCells (heap_alloc_last _ _) (img_info he.size) (zero_size he) he.all ?_
      refine hK.out _ _ (by rw [setRow_other _ _ _ _ (by omega)]; exact hS2) (fun hS3 => ?_)
      clear hK K
      refine wpAnyH_take (i := 13) (oi := { dst := some 6, op := Op.assign (Operand.tmp 17), type := 4, pos := "base.go:561", after := #[{ on := 10, ground := Ground.data }, { on := 12, ground := Ground.chain }, { on := 0, ground := Ground.phase }, { on := 1, ground := Ground.phase }, { on := 2, ground := Ground.phase }, { on := 3, ground := Ground.phase }, { on := 4, ground := Ground.phase }, { on := 5, ground := Ground.phase }, { on := 6, ground := Ground.phase }, { on := 7, ground := Ground.phase }, { on := 8, ground := Ground.phase }, { on := 9, ground := Ground.phase }, { on := 10, ground := Ground.phase }, { on := 11, ground := Ground.phase }, { on := 12, ground := Ground.phase }], guard := none }) (v := .bool (Img.inB b)) rfl (by kernel_rfl) (by kernel_rfl) (by kernel_rfl) (fun _ _ _ h => h) (Or.inl ⟨by kernel_rfl, fun W h => (by first | kernel_rfl | go_simp)⟩) hS3 ?_
      refine wpAnyH_done (by kernel_rfl) ?_ _
      simp only [Act.put, List.setIfInBounds_toArray, List.set_cons_zero, List.set_cons_succ]
      go_wp2_with fail
      go_meet
      exact ⟨_, es, rfl, rfl, he, setRow_heap _ _ _ _ _ _ (heap_alloc_last _ _), below_setRow ((hB0.trans (hb1.mono hB0.size)).alloc (hB0.trans (hb1.mono hB0.size)).size _) (hB0.trans (hb1.mono hB0.size)).size _⟩
    · go_simp
      refine hK.out _ _ (by rw [Below.heap_alloc _ _ _ hl0]; exact hS) (fun hS1 => ?_)
      clear hK K
      refine wpAnyH_ready (rs := [7]) (by kernel_rfl) (by simp) ?_
      refine AllReadyH.cons (o := { dst := some 15, op := Op.call { callee := Callee.value (Operand.func 70), args := #[Operand.tmp 10, Operand.tmp 13, Operand.tmp 14], argTypes := #[50, 50, 3] }, type := 92, pos := "base.go:561", after := #[{ on := 2, ground := Ground.data }, { on := 5, ground := Ground.data }, { on := 6, ground := Ground.data }], guard := none }) rfl (fun K hK => ?_) AllReadyH.nil
      go_simp
      refine (rWrite_any (ob := 0) (oc := 94) g g m k b _ (hasAt_of hS1 (by simp; omega) (app3_fst z1) hi) ⟨ds, _, _, hS1, by simp; omega, app3_snd z1 z2, hj⟩).mono ?_
      rintro e w1 ⟨⟨es, rfl, he⟩, hb1⟩
      go_wp2_with fail
      refine hK.out _ _ (by rw [hb1.block _ (by simp; omega)]; exact hS1) (fun hS2 => ?_)
      clear hK K
      refine wpAnyH_take (i := 8) (oi := { dst := some 7, op := Op.move (Operand.tmp 15), type := 92, pos := "base.go:561", after := #[{ on := 7, ground := Ground.data }], guard := none }) (v := .tuple #[.agg es, .bool (Img.inB b)]) rfl (by kernel_rfl) (by kernel_rfl) (by kernel_rfl) (fun _ _ _ h => h) (Or.inl ⟨by kernel_rfl, fun W h => (by first | kernel_rfl | go_simp)⟩) hS2 ?_
      refine wpAnyH_take (i := 9) (oi := { dst := some 16, op := Op.extract (Operand.tmp 7) 0, type := 34, pos := "base.go:561", after := #[{ on := 8, ground := Ground.data }], guard := none }) (v := .agg es) rfl (by kernel_rfl) (by kernel_rfl) (by kernel_rfl) (fun _ _ _ h => h) (Or.inl ⟨by kernel_rfl, fun W h => (by first | kernel_rfl | go_simp)⟩) hS2 ?_
      refine wpAnyH_take (i := 10) (oi := { dst := some 17, op := Op.extract (Operand.tmp 7) 1, type := 4, pos := "base.go:561", after := #[{ on := 8, ground := Ground.data }, { on := 12, ground := Ground.gcOnly Departure.lateStores }], guard := none }) (v := .bool (Img.inB b)) rfl (by kernel_rfl) (by kernel_rfl) (by kernel_rfl) (fun _ _ _ h => h) (Or.inl ⟨by kernel_rfl, fun W h => (by first | kernel_rfl | go_simp)⟩) hS2 ?_
      have hr : w1.heap[W0.heap.size]? = some (.cells zeroCells 34) := by rw [hb1.block _ (by simp)]; exact heap_alloc_last _ _
      have hB1 : Below w.heap.size w w1 := (hB0.alloc hB0.size _).trans (hb1.mono (by have := hB0.size; simp; omega))
      refine wpAnyH_ready (rs := [12]) (by kernel_rfl) (by simp) ?_
      refine AllReadyH.cons (o := { dst := none, op := Op.store 34 (Operand.tmp 5) (Operand.tmp 16), type := 0, pos := "base.go:561", after := #[{ on := 11, ground := Ground.data }, { on := 9, ground := Ground.data }, { on := 7, ground := Ground.chain }, { on := 0, ground := Ground.phase }, { on := 1, ground := Ground.phase }, { on := 2, ground := Ground.phase }, { on := 3, ground := Ground.phase }, { on := 4, ground := Ground.phase }, { on := 5, ground := Ground.phase }, { on := 6, ground := Ground.phase }, { on := 7, ground := Ground.phase }, { on := 8, ground := Ground.phase }, { on := 9, ground := Ground.phase }, { on := 10, ground := Ground.textOnly Departure.lateStores }, { on := 11, ground := Ground.phase }], guard := none }) rfl (fun K hK => ?_) AllReadyH.nil
      rw [if_pos (by kernel_rfl)]
      refine wp_store_row 34 (.tmp 5) (.tmp 16) rfl (W0.heap.size) es (by kernel_rfl) (by kernel_rfl) 34 zeroCells hr (img_info he.size) (zero_size he) he.all ?_
      refine hK.out _ _ (by rw [setRow_other _ _ _ _ (by omega)]; exact hS2) (fun hS3 => ?_)
      clear hK K
      refine wpAnyH_take (i := 13) (oi := { dst := some 6, op := Op.assign (Operand.tmp 17), type := 4, pos := "base.go:561", after := #[{ on := 10, ground := Ground.data }, { on := 12, ground := Ground.chain }, { on := 0, ground := Ground.phase }, { on := 1, ground := Ground.phase }, { on := 2, ground := Ground.phase }, { on := 3, ground := Ground.phase }, { on := 4, ground := Ground.phase }, { on := 5, ground := Ground.phase }, { on := 6, ground := Ground.phase }, { on := 7, ground := Ground.phase }, { on := 8, ground := Ground.phase }, { on := 9, ground := Ground.phase }, { on := 10, ground := Ground.phase }, { on := 11, ground := Ground.phase }, { on := 12, ground := Ground.phase }], guard := none }) (v := .bool (Img.inB b)) rfl (by kernel_rfl) (by kernel_rfl) (by kernel_rfl) (fun _ _ _ h => h) (Or.inl ⟨by kernel_rfl, fun W h => (by first | kernel_rfl | go_simp)⟩) hS3 ?_
      refine wpAnyH_done (by kernel_rfl) ?_ _
      simp only [Act.put, List.setIfInBounds_toArray, List.set_cons_zero, List.set_cons_succ]
      go_wp2_with fail
      go_meet
      exact ⟨_, es, rfl, rfl, he, setRow_heap _ _ _ _ _ _ hr, below_setRow hB1 hB0.size _⟩
  case rest =>
    obtain ⟨gx, es, rfl, rfl, he, hr, hB⟩ := hcut
    have r1 := hide hr
    have r2 := hide (show wc.heap[g]? = some (.cells (cs ++ (ds ++ tl)) 48) by rw [hB.block _ hgl]; exact hg)
    have hle : 94 + es.size ≤ (cs ++ (ds ++ tl)).size := by simp [he.size]; omega
    have hsp := splice3_snd (tl := tl) z1 z2 he.size
    go_wp2_with (first | (have hx := unhide r1; refine wpList_load_row rfl 34 _ rfl gx rfl 34 es (0, 0) _ hx img_under rfl (img_info he.size) ?_; clear hx r1) | (have hx := unhide r2; refine wpList_store_part rfl 34 _ _ rfl g 94 es rfl rfl 48 (cs ++ (ds ++ tl)) hx (img_info he.size) hle he.all ?_; clear hx r2; rw [hsp]))
    go_ret
    exact ⟨es, rfl, he, Mut.of hB hgl rfl hg⟩
set_option maxRecDepth 100000 in
set_option maxHeartbeats 2000000 in
theorem bSync_any (g : Nat) (cs ds tl : Array Value) (m k : Img) (hi : IsImg cs m) (hj : IsImg ds k) (w : World) (hg : w.heap[g]? = some (.cells (cs ++ (ds ++ tl)) 48)) :
    Calls Tryz.prog 50 #[.pointer (some ⟨g, 0, none⟩)] w fun e w' => ∃ es, e = .returned (.int .i64 ((Img.syn m 8 k).1 : Nat)) ∧ IsImg es (Img.syn m 8 k).2 ∧ Mut w w' g (cs ++ (es ++ tl)) 48 := by
  have hgl : g < w.heap.size := (Array.getElem?_eq_some_iff.1 hg).1
  have z1 := hi.size
  obtain ⟨R, hR⟩ : ∃ R, R = Img.syn m 8 k := ⟨_, rfl⟩
  rw [← hR]
  go_enter Tryz.func50, Tryz.ntmps50
  go_wp2_with fail
  go_loopw [3] (fun i wr => ∃ (r : Nat) (es : Array Value) (K : Img), r ≤ 8 ∧ i = .int .i64 r ∧ Hid (IsImg es K) ∧ Hid (Mut w wr g (cs ++ (es ++ tl)) 48) ∧ Hid (R.1 = (Img.syn m (8 - r) K).1 + r ∧ R.2 = (Img.syn m (8 - r) K).2)) (fun i _ => 8 - (intOf i).toNat)
  case atStart => exact ⟨0, ds, k, by omega, rfl, hide hj, hide (Mut.refl' (Below.refl _ _) hgl hg), hide ⟨by rw [hR]; rfl, by rw [hR]⟩⟩
  case round =>
    obtain ⟨r, es, K, hr, rfl, HI, HM, HR⟩ := hrel
    by_cases hlt : r < 8
    · have t8 : decide ((r : Int) < 8) = true := by simp; omega
      have q := eqlImg hi (unhide HI)
      have ze := (unhide HI).size
      have HMd := hide ((unhide HM).call hgl (Below.refl _ _).drew)
      go_wp2_with fail
      refine wp_region_held_drew (S := fun W => W.heap[g]? = some (.cells (cs ++ (es ++ tl)) 48)) (by kernel_rfl) (unhide HM).row (fun hS => ?_)
      refine wpAnyH_take (i := 0) (oi := { dst := some 9, op := Op.move (Operand.tmp 0), type := 44, pos := "base.go:569", after := #[], guard := none }) (v := .pointer (some ⟨g, 0, none⟩)) rfl (by kernel_rfl) (by kernel_rfl) (by kernel_rfl) (fun _ _ _ h => h) (Or.inl ⟨by kernel_rfl, fun W h => (by first | kernel_rfl | go_simp)⟩) hS ?_
      refine wpAnyH_take (i := 1) (oi := { dst := some 10, op := Op.nilCheck (Operand.tmp 9), type := 0, pos := "base.go:569", after := #[{ on := 0, ground := Ground.data }], guard := none }) (v := .pointer (some ⟨g, 0, none⟩)) rfl (by kernel_rfl) (by kernel_rfl) (by kernel_rfl) (fun _ _ _ h => h) (Or.inl ⟨by kernel_rfl, fun W h => (by first | kernel_rfl | go_simp)⟩) hS ?_
      refine wpAnyH_take (i := 2) (oi := { dst := some 11, op := Op.fieldAddr 48 (Operand.tmp 10) 0, type := 0, pos := "base.go:569", after := #[{ on := 1, ground := Ground.data }], guard := none }) (v := .pointer (some ⟨g, 0, none⟩)) rfl (by kernel_rfl) (by kernel_rfl) (by kernel_rfl) (fun _ _ _ h => h) (Or.inl ⟨by kernel_rfl, fun W h => (by first | kernel_rfl | go_simp)⟩) hS ?_
      refine wpAnyH_take (i := 3) (oi := { dst := some 12, op := Op.load 34 (Operand.tmp 11), type := 34, pos := "base.go:569", after := #[{ on := 2, ground := Ground.data }], guard := none }) (v := .agg cs) rfl (by kernel_rfl) (by kernel_rfl) (by kernel_rfl) (fun _ _ _ h => h) (Or.inl ⟨by kernel_rfl, fun W h => run_exec_load_part 34 (.tmp 11) (by kernel_rfl) g 0 94 (by kernel_rfl) W 48 (cs ++ (es ++ tl)) cs _ h img_under rfl zero_img.2 (by simp; omega) (app3_fst z1)⟩) hS ?_
      refine wpAnyH_take (i := 4) (oi := { dst := some 13, op := Op.move (Operand.tmp 0), type := 44, pos := "base.go:569", after := #[], guard := none }) (v := .pointer (some ⟨g, 0, none⟩)) rfl (by kernel_rfl) (by kernel_rfl) (by kernel_rfl) (fun _ _ _ h => h) (Or.inl ⟨by kernel_rfl, fun W h => (by first | kernel_rfl | go_simp)⟩) hS ?_
      refine wpAnyH_take (i := 5) (oi := { dst := some 14, op := Op.nilCheck (Operand.tmp 13), type := 0, pos := "base.go:569", after := #[{ on := 4, ground := Ground.data }], guard := none }) (v := .pointer (some ⟨g, 0, none⟩)) rfl (by kernel_rfl) (by kernel_rfl) (by kernel_rfl) (fun _ _ _ h => h) (Or.inl ⟨by kernel_rfl, fun W h => (by first | kernel_rfl | go_simp)⟩) hS ?_
      refine wpAnyH_take (i := 6) (oi := { dst := some 15, op := Op.fieldAddr 48 (Operand.tmp 14) 1, type := 0, pos := "base.go:569", after := #[{ on := 5, ground := Ground.data }], guard := none }) (v := .pointer (some ⟨g, 94, none⟩)) rfl (by kernel_rfl) (by kernel_rfl) (by kernel_rfl) (fun _ _ _ h => h) (Or.inl ⟨by kernel_rfl, fun W h => (by first | kernel_rfl | go_simp)⟩) hS ?_
      refine wpAnyH_take (i := 7) (oi := { dst := some 16, op := Op.load 34 (Operand.tmp 15), type := 34, pos := "base.go:569", after := #[{ on := 6, ground := Ground.data }], guard := none }) (v := .agg es) rfl (by kernel_rfl) (by kernel_rfl) (by kernel_rfl) (fun _ _ _ h => h) (Or.inl ⟨by kernel_rfl, fun W h => run_exec_load_part 34 (.tmp 15) (by kernel_rfl) g 94 94 (by kernel_rfl) W 48 (cs ++ (es ++ tl)) es _ h img_under rfl zero_img.2 (by simp; omega) (app3_snd z1 ze)⟩) hS ?_
      refine wpAnyH_take (i := 8) (oi := { dst := some 17, op := Op.binOp BinOp.eql 34 (Operand.tmp 12) (Operand.tmp 16) 34, type := 4, pos := "base.go:569", after := #[{ on := 3, ground := Ground.data }, { on := 7, ground := Ground.data }], guard := none }) (v := .bool (Img.sameImg m K)) rfl (by kernel_rfl) (by kernel_rfl) (by kernel_rfl) (fun _ _ _ h => h) (Or.inl ⟨by kernel_rfl, fun W h => run_exec_eql 34 34 (.tmp 12) (.tmp 16) (by kernel_rfl) cs es (by kernel_rfl) (by kernel_rfl) _ Tryz.eqGuardType34 q W⟩) hS ?_
      refine wpAnyH_done (by kernel_rfl) ?_ _
      simp only [Act.put, List.setIfInBounds_toArray, List.set_cons_zero, List.set_cons_succ]
      have HM1 := HMd
      clear HM HMd q
      cases hc : Img.sameImg m K
      · go_wp2_with fail
        go_loopw [4] (fun i wr => ∃ (j : Int) (c : Nat) (fs : Array Value) (D : Img), c ≤ 14 ∧ j = (c : Int) - 1 ∧ i = .int .i64 j ∧ Hid (IsImg fs D) ∧ Hid (Mut w wr g (cs ++ (fs ++ tl)) 48) ∧ Hid (Img.down m D c = Img.down m K 14)) (fun i _ => (intOf i + 1).toNat)
        case atStart => exact ⟨13, 14, es, K, by omega, by omega, rfl, HI, HM1, hide rfl⟩
        case round =>
          obtain ⟨j, c, fs, D, hc14, hjc, rfl, HI2, HM2, HD⟩ := hrel
          cases c with
          | zero =>
            have tg : decide (j ≥ 0) = false := by simp; omega
            have tg2 : decide (0 ≤ j) = false := by simp; omega
            clear hjc
            have HR2 := hide (show R.1 = (Img.syn m (8 - (r + 1)) D).1 + (r + 1) ∧ R.2 = (Img.syn m (8 - (r + 1)) D).2 from by
              have h1 := unhide HR
              rw [show 8 - r = (8 - (r + 1)) + 1 by omega, Img.syn_step hc] at h1
              have h2 : D = Img.down m K 14 := unhide HD
              rw [h2]
              exact ⟨by have := h1.1; simp at this; omega, h1.2⟩)
            go_wp2_with fail
            go_roundw
            case rel => exact ⟨r + 1, fs, D, by omega, by go_num, HI2, HM2, HR2⟩
            case measure => simp [intOf]; omega
          | succ c =>
            have tg : decide (j ≥ 0) = true := by simp; omega
            have tg2 : decide (0 ≤ j) = true := by simp; omega
            have hj0 : 0 ≤ j := by omega
            have hj13 : j ≤ 13 := by omega
            have HJ := hide (show j = (c : Int) by omega)
            clear hjc
            go_wp2_with fail
            refine (bWrite_any g cs fs tl m D hi (unhide HI2) j _ (unhide HM2).row).mono ?_
            rintro e w2 ⟨fs2, rfl, hI3, hM3⟩
            have HM3 := hide ((unhide HM2).trans hM3)
            have HI3 := hide hI3
            have HD3 := hide (show Img.down m (Img.write m D j) c = Img.down m K 14 from by rw [unhide HJ]; exact unhide HD)
            clear HM2 hM3 hI3 HI2 HD
            go_wp2_with fail
            go_roundw
            case rel => exact ⟨_, c, fs2, _, by omega, by have := unhide HJ; omega, rfl, HI3, HM3, HD3⟩
            case measure => simp [intOf]; omega
      · have HE := hide (show R.1 = r ∧ R.2 = K from by
          have h1 := unhide HR
          rw [Img.syn_stop hc] at h1
          exact ⟨by have := h1.1; simp at this; omega, h1.2⟩)
        go_wp2_with fail
        go_ret
        exact ⟨es, by rw [(unhide HE).1]; rfl, by rw [(unhide HE).2]; exact unhide HI, unhide HM1⟩
    · have t8 : decide ((r : Int) < 8) = false := by simp; omega
      have er : r = 8 := by omega
      subst er
      have HE := hide (show R.1 = 8 ∧ R.2 = K from by
        have h1 := unhide HR
        exact ⟨by have := h1.1; simp [Img.syn] at this; omega, h1.2⟩)
      go_wp2_with fail
      go_ret
      exact ⟨es, by rw [(unhide HE).1]; rfl, by rw [(unhide HE).2]; exact unhide HI, unhide HM⟩
set_option maxHeartbeats 1000000 in
theorem bIno_any (g : Nat) (m k : Img) (w : World) (hm : HasAt w g 0 m) (hk : HasAt w g 94 k) :
    Calls Tryz.prog 71 #[.pointer (some ⟨g, 0, none⟩)] w fun e w' => e = .returned (.int .i64 (Img.freeIno m k)) ∧ w' = w := by
  have E : Img.freeIno m k = Img.firstI (fun n => !m.live n && (k.refs (n : Int) == 0)) 8 := rfl
  rw [E]
  clear E
  have hl := hm.lt
  go_enter Tryz.func71, Tryz.ntmps71
  go_wp2_with fail
  go_loop [3] (fun i => ∃ n : Nat, n ≤ 8 ∧ i = .int .i64 n ∧ Hid (∀ j, j < n → (!m.live j && (k.refs (j : Int) == 0)) = false)) (fun i => 8 - (intOf i).toNat)
  case atStart => exact ⟨0, by omega, rfl, hide fun j hj => by omega⟩
  case round =>
    obtain ⟨n, hn, rfl, HP⟩ := hrel
    by_cases hlt : n < 8
    · have t8 : decide ((n : Int) < 8) = true := by simp; omega
      have fl := hm.live n hlt
      rw [Nat.zero_add] at fl
      have C := hide (At.rLeads_any g k (n : Int) w hk)
      have NX := hide (fun (h : (!m.live n && (k.refs (n : Int) == 0)) = false) => forall_succ (p := fun j => (!m.live j && (k.refs (j : Int) == 0)) = false) (unhide HP) h)
      cases h1 : m.live n
      · rw [h1] at fl
        cases h2 : (k.refs (n : Int) == 0)
        · have W := hide (unhide NX (by simp only [h1, h2]; rfl))
          have h3 : ((k.refs (n : Int) : Nat) : Int) ≠ 0 := by simp at h2; omega
          generalize ((k.refs (n : Int) : Nat) : Int) = rr at C h3
          have h4 : (rr == 0) = false := by simpa using h3
          clear h2 h3 NX
          go_wp2_with fail
          refine (unhide C).mono ?_
          rintro e wz ⟨rfl, ez⟩
          rw [ez]
          clear ez wz C
          go_wp2_with fail
          exact ⟨⟨n + 1, by omega, by go_num, W⟩, by simp [intOf]; omega⟩
        · have HE := hide (Img.firstI_at (p := fun n => !m.live n && (k.refs (n : Int) == 0)) (by simp only [h1, h2]; rfl) (unhide HP) hlt)
          have h3 : k.refs (n : Int) = 0 := by simpa using h2
          rw [h3] at C
          clear h2 h3 NX
          go_wp2_with fail
          refine (unhide C).mono ?_
          rintro e wz ⟨rfl, ez⟩
          rw [ez]
          clear ez wz C
          go_wp2_with fail
          go_ret
          exact ⟨by rw [unhide HE]; rfl, rfl⟩
      · rw [h1] at fl
        have W := hide (unhide NX (by simp only [h1]; rfl))
        clear NX C
        go_wp2_with fail
        exact ⟨⟨n + 1, by omega, by go_num, W⟩, by simp [intOf]; omega⟩
    · have t8 : decide ((n : Int) < 8) = false := by simp; omega
      have HE := hide (Img.firstI_none (p := fun n => !m.live n && (k.refs (n : Int) == 0)) (n := 8) (fun j hj => unhide HP j (by omega)))
      go_wp2_with fail
      go_ret
      exact ⟨by rw [unhide HE]; rfl, rfl⟩
set_option maxHeartbeats 1000000 in
theorem bData_any (g : Nat) (m k : Img) (w : World) (hm : HasAt w g 0 m) (hk : HasAt w g 94 k) :
    Calls Tryz.prog 74 #[.pointer (some ⟨g, 0, none⟩)] w fun e w' => e = .returned (.int .i64 (Img.freeData m k)) ∧ w' = w := by
  have E : Img.freeData m k = Img.firstI (fun x => !m.holds (x : Int) && !k.holds (x : Int)) 9 := rfl
  rw [E]
  clear E
  have hl := hm.lt
  go_enter Tryz.func74, Tryz.ntmps74
  go_wp2_with fail
  go_loop [3] (fun i => ∃ n : Nat, n ≤ 9 ∧ i = .int .i64 n ∧ Hid (∀ j, j < n → (!m.holds (j : Int) && !k.holds (j : Int)) = false)) (fun i => 9 - (intOf i).toNat)
  case atStart => exact ⟨0, by omega, rfl, hide fun j hj => by omega⟩
  case round =>
    obtain ⟨n, hn, rfl, HP⟩ := hrel
    by_cases hlt : n < 9
    · have t9 : decide ((n : Int) < 9) = true := by simp; omega
      have C1 := hide (rHeld_any g m (n : Int) w hm)
      have C2 := hide (rHeld_any g k (n : Int) w hk)
      rw [Img.held_isD hlt] at C1 C2
      have NX := hide (fun (h : (!m.holds (n : Int) && !k.holds (n : Int)) = false) => forall_succ (p := fun j => (!m.holds (j : Int) && !k.holds (j : Int)) = false) (unhide HP) h)
      cases h1 : m.holds (n : Int)
      · rw [h1] at C1
        cases h2 : k.holds (n : Int)
        · rw [h2] at C2
          have HE := hide (Img.firstI_at (p := fun x => !m.holds (x : Int) && !k.holds (x : Int)) (by simp only [h1, h2]; rfl) (unhide HP) hlt)
          clear NX
          go_wp2_with fail
          refine (unhide C1).mono ?_
          rintro e wz ⟨rfl, ez⟩
          rw [ez]
          clear ez wz C1
          go_wp2_with fail
          refine (unhide C2).mono ?_
          rintro e wz ⟨rfl, ez⟩
          rw [ez]
          clear ez wz C2
          go_wp2_with fail
          go_ret
          exact ⟨by rw [unhide HE]; rfl, rfl⟩
        · rw [h2] at C2
          have W := hide (unhide NX (by simp only [h1, h2]; rfl))
          clear NX
          go_wp2_with fail
          refine (unhide C1).mono ?_
          rintro e wz ⟨rfl, ez⟩
          rw [ez]
          clear ez wz C1
          go_wp2_with fail
          refine (unhide C2).mono ?_
          rintro e wz ⟨rfl, ez⟩
          rw [ez]
          clear ez wz C2
          go_wp2_with fail
          exact ⟨⟨n + 1, by omega, by go_num, W⟩, by simp [intOf]; omega⟩
      · rw [h1] at C1
        have W := hide (unhide NX (by simp only [h1]; rfl))
        clear NX
        go_wp2_with fail
        refine (unhide C1).mono ?_
        rintro e wz ⟨rfl, ez⟩
        rw [ez]
        clear ez wz C1
        go_wp2_with fail
        exact ⟨⟨n + 1, by omega, by go_num, W⟩, by simp [intOf]; omega⟩
    · have t9 : decide ((n : Int) < 9) = false := by simp; omega
      have HE := hide (Img.firstI_none (p := fun x => !m.holds (x : Int) && !k.holds (x : Int)) (n := 9) (fun j hj => unhide HP j (by omega)))
      go_wp2_with fail
      go_ret
      exact ⟨by rw [unhide HE]; rfl, rfl⟩
set_option maxHeartbeats 1000000 in
theorem bSlot_any (g : Nat) (m k : Img) (d : Int) (w : World) (hm : HasAt w g 0 m) (hk : HasAt w g 94 k) :
    Calls Tryz.prog 96 #[.pointer (some ⟨g, 0, none⟩), .int .i64 d] w fun e w' => e = .returned (.int .i64 (Img.freeSlot m k d)) ∧ ∃ q, w' = w.drewN q := by
  have hl := hm.lt
  by_cases hd : 0 ≤ d ∧ d < 3
  · obtain ⟨e, rfl⟩ := Int.eq_ofNat_of_zero_le hd.1
    have he : e < 3 := by omega
    have E : Img.freeSlot m k (e : Int) = Img.firstI (fun s => !m.named e s && !k.named e s) 4 := by unfold Img.freeSlot; rw [if_pos hd, Int.toNat_natCast]
    rw [E]
    have t1 : decide ((e : Int) < 0) = false := by simp
    have t2 : decide (3 ≤ (e : Int)) = false := by simp; omega
    have t3 : decide ((e : Int) ≥ 3) = false := by simp; omega
    have hez : (e : Int) < 3 := by omega
    clear E hd
    go_enter Tryz.func96, Tryz.ntmps96
    go_wp2_with fail
    go_loopw [5] (fun i wr => ∃ s q : Nat, s ≤ 4 ∧ i = .int .i64 s ∧ Hid (∀ j, j < s → (!m.named e j && !k.named e j) = false) ∧ wr = w.drewN q) (fun i _ => 4 - (intOf i).toNat)
    case atStart => exact ⟨0, 0, by omega, rfl, hide fun j hj => by omega, rfl⟩
    case round =>
      obtain ⟨s, q, hs, rfl, HP, rfl⟩ := hrel
      by_cases hlt : s < 4
      · have t4 : decide ((s : Int) < 4) = true := by simp; omega
        have n1 := hm.name e s he hlt
        rw [Nat.zero_add] at n1
        have n2 := hk.name e s he hlt
        rw [show 94 + 40 = 134 from rfl] at n2
        have NX := hide (fun (h : (!m.named e s && !k.named e s) = false) => forall_succ (p := fun j => (!m.named e j && !k.named e j) = false) (unhide HP) h)
        have E1 := hide (show m.named e s = !(m.name e s).toList.isEmpty from rfl)
        have E2 := hide (show k.named e s = !(k.name e s).toList.isEmpty from rfl)
        cases h1 : (m.name e s).toList.isEmpty
        · have W := hide (unhide NX (by simp only [unhide E1, h1]; rfl))
          go_wp2_with fail
          try (go_quiet (fail); go_wp2_with fail)
          go_roundw
          case rel => exact ⟨s + 1, _, by omega, by go_num, W, by first | rfl | exact drewNs⟩
          case measure => simp [intOf]; omega
        · cases h2 : (k.name e s).toList.isEmpty
          · have W := hide (unhide NX (by simp only [unhide E1, unhide E2, h1, h2]; rfl))
            go_wp2_with fail
            try (go_quiet (fail); go_wp2_with fail)
            go_roundw
            case rel => exact ⟨s + 1, _, by omega, by go_num, W, by first | rfl | exact drewNs⟩
            case measure => simp [intOf]; omega
          · have HE := hide (Img.firstI_at (p := fun s => !m.named e s && !k.named e s) (by simp only [unhide E1, unhide E2, h1, h2]; rfl) (unhide HP) hlt)
            go_wp2_with fail
            try (go_quiet (fail); go_wp2_with fail)
            go_ret
            exact ⟨by rw [unhide HE]; rfl, by first | exact ⟨_, rfl⟩ | exact ⟨_, drewNs⟩⟩
      · have t4 : decide ((s : Int) < 4) = false := by simp; omega
        have HE := hide (Img.firstI_none (p := fun s => !m.named e s && !k.named e s) (n := 4) (fun j hj => unhide HP j (by omega)))
        go_wp2_with fail
        go_ret
        exact ⟨by rw [unhide HE]; rfl, _, rfl⟩
  · have E : Img.freeSlot m k d = -1 := by unfold Img.freeSlot; rw [if_neg hd]
    rw [E]
    clear E
    by_cases h0 : d < 0
    · have t1 : decide (d < 0) = true := by simpa using h0
      clear h0 hd
      go_enter Tryz.func96, Tryz.ntmps96
      go_wp2_with fail
      go_ret
      exact ⟨rfl, 0, rfl⟩
    · have t1 : decide (d < 0) = false := by simpa using h0
      have t2 : decide (3 ≤ d) = true := by simp; omega
      have t3 : decide (d ≥ 3) = true := by simp; omega
      clear h0 hd
      go_enter Tryz.func96, Tryz.ntmps96
      go_wp2_with fail
      go_ret
      exact ⟨rfl, 0, rfl⟩
end Go.Proofs.YtmlhalhjfcfagabGreat
namespace Go.Proofs.YtmlhalhjfcfagabGreat
open Go.RowKit
open Idl (Stp chk stpA)
namespace Sft
def bedTail : Array Value := #[.int .i64 0, .int .i64 0, .int .i64 0, .int .i64 0, .int .i64 0]
theorem fill_bed {z cs ds tl : Array Value} {pl : Nat → Option (Nat × Nat)} (p0 : pl 0 = some (0, 94)) (p1 : pl 1 = some (94, 94)) (hz : z.size = 188 + tl.size) (ht : ∀ i, 188 ≤ i → z[i]? = tl[i - 188]?) (h1 : cs.size = 94) (h2 : ds.size = 94) : Instr.fill pl z [(0, .agg cs), (1, .agg ds)] = some (cs ++ (ds ++ tl)) := by
  have s1 := foldSet_size cs 0 z (by omega)
  have s2 := foldSet_size ds 94 (cs.zipIdx.foldl (fun cs (p : Value × Nat) => cs.setIfInBounds (0 + p.2) p.1) z) (by omega)
  rw [fill_cons (i := 0) (vs := cs) (off := 0) (size := 94) p0 rfl h1 (by omega), fill_cons (i := 1) (vs := ds) (off := 94) (size := 94) p1 rfl h2 (by omega)]
  show some _ = some _
  congr 1
  refine Array.ext_getElem? fun i => ?_
  rw [foldSet_get ds 94 _ (by rw [s1]; omega), foldSet_get cs 0 z (by omega), Array.getElem?_append, Array.getElem?_append]
  by_cases hi : i < 94
  · rw [if_neg (by omega), if_pos (by omega), if_pos (by omega)]; simp
  · by_cases hj : i < 188
    · rw [if_pos (by omega), if_neg (by omega), if_pos (by omega), h1]
    · rw [if_neg (by omega), if_neg (by omega), if_neg (by omega), if_neg (by omega), ht i (by omega), h1, h2, show i - 188 = i - 94 - 94 by omega]
theorem bed_built (parts : List (Nat × Value)) : Tryz.prog.built 48 parts = Instr.fill (fun i => #[(0, 94), (94, 94), (188, 1), (189, 1), (190, 1), (191, 1), (192, 1)][i]?) (zeroCells ++ (zeroCells ++ bedTail)) parts := by kernel_rfl
theorem built_bed {cs ds : Array Value} (h1 : cs.size = 94) (h2 : ds.size = 94) : Tryz.prog.built 48 [(0, .agg cs), (1, .agg ds)] = some (cs ++ (ds ++ bedTail)) := by
  rw [bed_built]
  have zs : zeroCells.size = 94 := size_newTo 0
  refine fill_bed rfl rfl (by simp [zs]; omega) (fun i hi => ?_) h1 h2
  rw [Array.getElem?_append, if_neg (by omega), Array.getElem?_append, if_neg (by omega), zs, show i - 94 - 94 = i - 188 by omega]
def IsBed (W : World) (g : Nat) : Prop := ∃ cs ds tl m k, IsImg cs m ∧ IsImg ds k ∧ W.heap[g]? = some (.cells (cs ++ (ds ++ tl)) 48)
theorem IsBed.lt {W : World} {g : Nat} (h : IsBed W g) : g < W.heap.size := by
  obtain ⟨cs, ds, tl, m, k, _, _, h⟩ := h
  exact (Array.getElem?_eq_some_iff.1 h).1
theorem IsBed.keep {W W' : World} {g : Nat} (h : IsBed W g) (e : W'.heap[g]? = W.heap[g]?) : IsBed W' g := by
  obtain ⟨cs, ds, tl, m, k, h1, h2, h⟩ := h
  exact ⟨cs, ds, tl, m, k, h1, h2, e.trans h⟩
set_option maxHeartbeats 1000000 in
set_option maxRecDepth 100000 in
theorem newBed_any (w : World) : Calls Tryz.prog 13 #[] w fun e w' => ∃ g, e = .returned (.pointer (some ⟨g, 0, none⟩)) ∧ w.heap.size ≤ g ∧ IsBed w' g ∧ Below w.heap.size w w' := by
  have hz := size_blank
  go_enter Tryz.func13, Tryz.ntmps13
  go_wp2_with fail
  refine (blank_any w).mono ?_
  rintro e w1 ⟨rfl, b1⟩
  have B1 := hide b1
  clear b1
  go_wp2_with fail
  refine (blank_any w1).mono ?_
  rintro e w2 ⟨rfl, b2⟩
  have B2 := hide ((unhide B1).trans (b2.mono (unhide B1).size))
  clear b2
  go_wp2_with (refine wpList_build_two rfl 48 _ _ rfl blankCells blankCells (blankCells ++ (blankCells ++ bedTail)) rfl rfl (built_bed hz hz) ?_)
  go_ret
  exact ⟨_, rfl, (unhide B2).size, ⟨_, _, _, _, _, blank_is, blank_is, heap_alloc_last _ _⟩, (unhide B2).alloc (unhide B2).size _⟩
theorem bedWrite {W : World} {g : Nat} (h : IsBed W g) (b : Int) : Calls Tryz.prog 49 #[.pointer (some ⟨g, 0, none⟩), .int .i64 b] W fun e w' => e = .returned (.bool (Img.inB b)) ∧ IsBed w' g ∧ ∃ c, Mut W w' g c 48 := by
  obtain ⟨cs, ds, tl, m, k, h1, h2, h⟩ := h
  refine (bWrite_any g cs ds tl m k h1 h2 b W h).mono ?_
  rintro e w' ⟨es, rfl, he, hm⟩
  exact ⟨rfl, ⟨cs, es, tl, m, _, h1, he, hm.row⟩, _, hm⟩
theorem bedSync {W : World} {g : Nat} (h : IsBed W g) : Calls Tryz.prog 50 #[.pointer (some ⟨g, 0, none⟩)] W fun e w' => (∃ n : Int, e = .returned (.int .i64 n)) ∧ IsBed w' g ∧ ∃ c, Mut W w' g c 48 := by
  obtain ⟨cs, ds, tl, m, k, h1, h2, h⟩ := h
  refine (bSync_any g cs ds tl m k h1 h2 W h).mono ?_
  rintro e w' ⟨es, rfl, he, hm⟩
  exact ⟨⟨_, rfl⟩, ⟨cs, es, tl, m, _, h1, he, hm.row⟩, _, hm⟩
end Sft
/-- files and a bed that a law has made -/
structure Fb (w : World) (bf bc gb : Nat) (m k : Img) (last : Int) (W : World) : Prop where
  fo : Fo w bf bc m k last W
  bed : Sft.IsBed W gb
  b0 : w.heap.size ≤ gb
  nf : gb ≠ bf
  nc : gb ≠ bc
/-- what is not theirs is as it was -/
def Oth (bf bc gb : Nat) (W W' : World) : Prop := ∀ j, j < W.heap.size → j ≠ bf → j ≠ bc → j ≠ gb → W'.heap[j]? = W.heap[j]?
section
variable {w W W' W2 : World} {bf bc gb : Nat} {m k k' : Img} {last : Int}
theorem Oth.of_below (hb : Below W.heap.size W W') : Oth bf bc gb W W' := fun j hj _ _ _ => hb.block j hj
theorem Oth.trans (h : Oth bf bc gb W W') (hs : W.heap.size ≤ W'.heap.size) (h' : Oth bf bc gb W' W2) : Oth bf bc gb W W2 := fun j hj a b c => (h' j (by omega) a b c).trans (h j hj a b c)
theorem Fb.call (h : Fb w bf bc gb m k last W) (hb : Below W.heap.size W W') : Fb w bf bc gb m k last W' :=
  ⟨h.fo.call hb, h.bed.keep (hb.block _ h.bed.lt), h.b0, h.nf, h.nc⟩
theorem Fb.fmut (h : Fb w bf bc gb m k last W) (hf : Fo w bf bc m k' last W') (hm : ∃ c, Mut W W' bc c 57) : Fb w bf bc gb m k' last W' ∧ Oth bf bc gb W W' ∧ W.heap.size ≤ W'.heap.size := by
  obtain ⟨c, hm⟩ := hm
  exact ⟨⟨hf, h.bed.keep (hm.old _ h.bed.lt h.nc), h.b0, h.nf, h.nc⟩, fun j hj _ a _ => hm.old j hj a, hm.size⟩
theorem Fb.bmut (h : Fb w bf bc gb m k last W) (hb : Sft.IsBed W' gb) (hm : ∃ c, Mut W W' gb c 48) : Fb w bf bc gb m k last W' ∧ Oth bf bc gb W W' ∧ W.heap.size ≤ W'.heap.size := by
  obtain ⟨c, hm⟩ := hm
  obtain ⟨cs, ds, f⟩ := h.fo.it
  exact ⟨⟨⟨⟨cs, ds, f.keep (hm.old _ f.flt (Ne.symm h.nf)) (hm.old _ f.clt (Ne.symm h.nc))⟩, h.fo.bel.trans (hm.below _ h.b0 h.fo.bel.size), h.fo.f0, h.fo.c0⟩, hb, h.b0, h.nf, h.nc⟩, fun j hj _ _ a => hm.old j hj a, hm.size⟩
theorem Fb.chg (h : Fb w bf bc gb m k last W) {m' k' : Img} {last' : Int} (hf : Fo w bf bc m' k' last' W') (hc : Idl.Chg (fun i => i = bf ∨ i = bc) W W') : Fb w bf bc gb m' k' last' W' ∧ Oth bf bc gb W W' ∧ W.heap.size ≤ W'.heap.size :=
  ⟨⟨hf, h.bed.keep (hc.block _ h.bed.lt (fun z => z.elim h.nf h.nc)), h.b0, h.nf, h.nc⟩, fun j hj a b _ => hc.block j hj (fun z => z.elim a b), hc.size⟩
/-- what a step that is none of files leaves of the disk -/
def Img.sdisk (m k : Img) (x : Stp) : Img := if x.kind = 7 then Img.write m k x.p else if x.kind = 8 then (Img.syn m 8 k).2 else k
set_option maxHeartbeats 4000000 in
set_option maxRecDepth 100000 in
theorem softStep_seven (h : Fb w bf bc gb m k last W) (x : Stp) (h7 : x.kind = 7) :
    Calls Tryz.prog 17 #[.pointer (some ⟨bf, 0, none⟩), .pointer (some ⟨gb, 0, none⟩), .agg (stpA x)] W fun e w' => (∃ v, e = .returned (.bool v)) ∧ Fb w bf bc gb m (Img.write m k x.p) last w' ∧ Oth bf bc gb W w' ∧ W.heap.size ≤ w'.heap.size := by
  obtain ⟨kind, dir, toDir, p, name, tu, text⟩ := x
  dsimp only at h7 ⊢
  subst h7
  have H0 := hide (h.call ((Below.refl W.heap.size W).alloc (Nat.le_refl _) (.cells (stpA ⟨7, dir, toDir, p, name, tu, text⟩) 37)))
  have BL := hide (show Below W.heap.size W (W.alloc (.cells (stpA ⟨7, dir, toDir, p, name, tu, text⟩) 37)) from (Below.refl _ W).alloc (Nat.le_refl _) _)
  have GB := hide (show bf < W.heap.size ∧ bc < W.heap.size ∧ gb < W.heap.size from ⟨h.fo.cells.2.1, h.fo.cells.2.2.1, h.bed.lt⟩)
  have RX := hide (heap_alloc_last W (.cells (stpA ⟨7, dir, toDir, p, name, tu, text⟩) 37))
  clear h
  go_enter Tryz.func17, Tryz.ntmps17
  go_wp2_with fail
  have c2 := (unhide BL).size
  generalize hg0 : W.heap.size = g0 at *
  generalize W.alloc (.cells (stpA ⟨7, dir, toDir, p, name, tu, text⟩) 37) = W1 at *
  have BD := hide ((Below.refl W1.heap.size W1).drew)
  have H1 := hide ((unhide H0).call (unhide BD))
  have R1 : W1.drew.heap[g0]? = some (.cells (stpA ⟨7, dir, toDir, p, name, tu, text⟩) 37) := unhide RX
  refine wp_region_held_drew (S := fun W => W.cell? ⟨bf, 0, none⟩ = some (.pointer (some ⟨bc, 0, none⟩)) ∧ W.cell? ⟨g0, 3, none⟩ = some (.int .i64 p)) (by kernel_rfl) (⟨(unhide H1).fo.cells.1, by rw [cell_of_row _ g0 3 _ _ _ R1]; rfl⟩) (fun hS => ?_)
  refine wpAnyH_take (i := 0) (oi := { dst := some 11, op := Op.move (Operand.tmp 0), type := 42, pos := "law05.go:28", after := #[], guard := none }) (v := .pointer (some ⟨bf, 0, none⟩)) rfl (by kernel_rfl) (by kernel_rfl) (by kernel_rfl) (fun _ _ _ h => h) (Or.inl ⟨by kernel_rfl, fun W h => (by first | kernel_rfl | go_simp)⟩) hS ?_
  try simp only [Act.put, List.setIfInBounds_toArray, List.set_cons_zero, List.set_cons_succ]
  refine wpAnyH_take (i := 1) (oi := { dst := some 12, op := Op.nilCheck (Operand.tmp 11), type := 0, pos := "law05.go:28", after := #[{ on := 0, ground := Ground.data }], guard := none }) (v := .pointer (some ⟨bf, 0, none⟩)) rfl (by kernel_rfl) (by kernel_rfl) (by kernel_rfl) (fun _ _ _ h => h) (Or.inl ⟨by kernel_rfl, fun W h => (by first | kernel_rfl | go_simp)⟩) hS ?_
  try simp only [Act.put, List.setIfInBounds_toArray, List.set_cons_zero, List.set_cons_succ]
  refine wpAnyH_take (i := 2) (oi := { dst := some 13, op := Op.fieldAddr 55 (Operand.tmp 12) 0, type := 0, pos := "law05.go:28", after := #[{ on := 1, ground := Ground.data }], guard := none }) (v := .pointer (some ⟨bf, 0, none⟩)) rfl (by kernel_rfl) (by kernel_rfl) (by kernel_rfl) (fun _ _ _ h => h) (Or.inl ⟨by kernel_rfl, fun W h => (by first | kernel_rfl | go_simp)⟩) hS ?_
  try simp only [Act.put, List.setIfInBounds_toArray, List.set_cons_zero, List.set_cons_succ]
  refine wpAnyH_take (i := 3) (oi := { dst := some 14, op := Op.load 53 (Operand.tmp 13), type := 53, pos := "law05.go:28", after := #[{ on := 2, ground := Ground.data }], guard := none }) (v := .pointer (some ⟨bc, 0, none⟩)) rfl (by kernel_rfl) (by kernel_rfl) (by kernel_rfl) (fun _ _ _ h => h) (Or.inl ⟨by kernel_rfl, fun W h => Op1.ld_ptr (.tmp 13) (by kernel_rfl) (by kernel_rfl) W (h.1)⟩) hS ?_
  try simp only [Act.put, List.setIfInBounds_toArray, List.set_cons_zero, List.set_cons_succ]
  refine wpAnyH_take (i := 4) (oi := { dst := some 15, op := Op.fieldAddr 37 (Operand.tmp 5) 3, type := 0, pos := "law05.go:28", after := #[], guard := none }) (v := .pointer (some ⟨g0, 3, none⟩)) rfl (by kernel_rfl) (by kernel_rfl) (by kernel_rfl) (fun _ _ _ h => h) (Or.inl ⟨by kernel_rfl, fun W h => (by first | kernel_rfl | go_simp)⟩) hS ?_
  try simp only [Act.put, List.setIfInBounds_toArray, List.set_cons_zero, List.set_cons_succ]
  refine wpAnyH_take (i := 5) (oi := { dst := some 16, op := Op.load 3 (Operand.tmp 15), type := 3, pos := "law05.go:28", after := #[{ on := 4, ground := Ground.data }], guard := none }) (v := .int .i64 p) rfl (by kernel_rfl) (by kernel_rfl) (by kernel_rfl) (fun _ _ _ h => h) (Or.inl ⟨by kernel_rfl, fun W h => Op1.ld_int (.tmp 15) (by kernel_rfl) (by kernel_rfl) W (h.2)⟩) hS ?_
  try simp only [Act.put, List.setIfInBounds_toArray, List.set_cons_zero, List.set_cons_succ]
  refine wpAnyH_take (i := 7) (oi := { dst := some 18, op := Op.move (Operand.tmp 1), type := 44, pos := "law05.go:28", after := #[], guard := none }) (v := .pointer (some ⟨gb, 0, none⟩)) rfl (by kernel_rfl) (by kernel_rfl) (by kernel_rfl) (fun _ _ _ h => h) (Or.inl ⟨by kernel_rfl, fun W h => (by first | kernel_rfl | go_simp)⟩) hS ?_
  try simp only [Act.put, List.setIfInBounds_toArray, List.set_cons_zero, List.set_cons_succ]
  refine wpAnyH_take (i := 8) (oi := { dst := some 19, op := Op.fieldAddr 37 (Operand.tmp 5) 3, type := 0, pos := "law05.go:28", after := #[], guard := none }) (v := .pointer (some ⟨g0, 3, none⟩)) rfl (by kernel_rfl) (by kernel_rfl) (by kernel_rfl) (fun _ _ _ h => h) (Or.inl ⟨by kernel_rfl, fun W h => (by first | kernel_rfl | go_simp)⟩) hS ?_
  try simp only [Act.put, List.setIfInBounds_toArray, List.set_cons_zero, List.set_cons_succ]
  refine wpAnyH_take (i := 9) (oi := { dst := some 20, op := Op.load 3 (Operand.tmp 19), type := 3, pos := "law05.go:28", after := #[{ on := 8, ground := Ground.data }], guard := none }) (v := .int .i64 p) rfl (by kernel_rfl) (by kernel_rfl) (by kernel_rfl) (fun _ _ _ h => h) (Or.inl ⟨by kernel_rfl, fun W h => Op1.ld_int (.tmp 19) (by kernel_rfl) (by kernel_rfl) W (h.2)⟩) hS ?_
  try simp only [Act.put, List.setIfInBounds_toArray, List.set_cons_zero, List.set_cons_succ]
  refine wpAnyH_ready (rs := [6]) (by kernel_rfl) (by simp) ?_
  refine AllReadyH.cons (o := { dst := some 17, op := Op.call { callee := Callee.value (Operand.func 28), args := #[Operand.tmp 14, Operand.tmp 16], argTypes := #[53, 3] }, type := 4, pos := "law05.go:28", after := #[{ on := 3, ground := Ground.data }, { on := 5, ground := Ground.data }], guard := none }) rfl (fun K hK => ?_) AllReadyH.nil
  rw [if_pos (by kernel_rfl)]
  go_simp
  refine ((unhide H1).fo.write p).mono ?_
  rintro e w2 ⟨rfl, f2, m2⟩
  obtain ⟨q2, o2, s2⟩ := (unhide H1).fmut f2 m2
  have H2 := hide q2
  have R2 : w2.heap[g0]? = some (.cells (stpA ⟨7, dir, toDir, p, name, tu, text⟩) 37) := by rw [o2 g0 (Array.getElem?_eq_some_iff.1 R1).1 (by have := (unhide GB).1; omega) (by have := (unhide GB).2.1; omega) (by have := (unhide GB).2.2; omega)]; exact R1
  have O2 := hide o2
  have S2 := hide s2
  clear q2 o2 s2 f2 m2
  go_wp2_with fail
  refine hK.out _ _ (⟨(unhide H2).fo.cells.1, by rw [cell_of_row _ g0 3 _ _ _ R2]; rfl⟩) (fun hS2 => ?_)
  clear hK K
  try simp only [Act.put, List.setIfInBounds_toArray, List.set_cons_zero, List.set_cons_succ]
  refine wpAnyH_ready (rs := [10]) (by kernel_rfl) (by simp) ?_
  refine AllReadyH.cons (o := { dst := some 21, op := Op.call { callee := Callee.value (Operand.func 49), args := #[Operand.tmp 18, Operand.tmp 20], argTypes := #[44, 3] }, type := 4, pos := "law05.go:28", after := #[{ on := 7, ground := Ground.data }, { on := 9, ground := Ground.data }, { on := 6, ground := Ground.chain }], guard := none }) rfl (fun K hK => ?_) AllReadyH.nil
  rw [if_pos (by kernel_rfl)]
  go_simp
  refine (Sft.bedWrite (unhide H2).bed p).mono ?_
  rintro e w3 ⟨rfl, f3, m3⟩
  obtain ⟨q3, o3, s3⟩ := (unhide H2).bmut f3 m3
  have H3 := hide q3
  have R3 : w3.heap[g0]? = some (.cells (stpA ⟨7, dir, toDir, p, name, tu, text⟩) 37) := by rw [o3 g0 (Array.getElem?_eq_some_iff.1 R2).1 (by have := (unhide GB).1; omega) (by have := (unhide GB).2.1; omega) (by have := (unhide GB).2.2; omega)]; exact R2
  have O3 := hide o3
  have S3 := hide s3
  clear q3 o3 s3 f3 m3
  go_wp2_with fail
  refine hK.out _ _ (⟨(unhide H3).fo.cells.1, by rw [cell_of_row _ g0 3 _ _ _ R3]; rfl⟩) (fun hS3 => ?_)
  clear hK K
  try simp only [Act.put, List.setIfInBounds_toArray, List.set_cons_zero, List.set_cons_succ]
  refine wpAnyH_take (i := 11) (oi := { dst := some 22, op := Op.binOp BinOp.eql 4 (Operand.tmp 17) (Operand.tmp 21) 4, type := 4, pos := "law05.go:28", after := #[{ on := 6, ground := Ground.data }, { on := 10, ground := Ground.data }], guard := none }) (v := .bool (Img.inB p == Img.inB p)) rfl (by kernel_rfl) (by kernel_rfl) (by kernel_rfl) (fun _ _ _ h => h) (Or.inl ⟨by kernel_rfl, fun W h => (by first | kernel_rfl | go_simp)⟩) hS3 ?_
  try simp only [Act.put, List.setIfInBounds_toArray, List.set_cons_zero, List.set_cons_succ]
  refine wpAnyH_take (i := 12) (oi := { dst := some 6, op := Op.assign (Operand.tmp 22), type := 4, pos := "law05.go:28", after := #[{ on := 11, ground := Ground.data }, { on := 10, ground := Ground.chain }, { on := 0, ground := Ground.phase }, { on := 1, ground := Ground.phase }, { on := 2, ground := Ground.phase }, { on := 3, ground := Ground.phase }, { on := 4, ground := Ground.phase }, { on := 5, ground := Ground.phase }, { on := 6, ground := Ground.phase }, { on := 7, ground := Ground.phase }, { on := 8, ground := Ground.phase }, { on := 9, ground := Ground.phase }, { on := 10, ground := Ground.phase }, { on := 11, ground := Ground.phase }], guard := none }) (v := .bool (Img.inB p == Img.inB p)) rfl (by kernel_rfl) (by kernel_rfl) (by kernel_rfl) (fun _ _ _ h => h) (Or.inl ⟨by kernel_rfl, fun W h => (by first | kernel_rfl | go_simp)⟩) hS3 ?_
  try simp only [Act.put, List.setIfInBounds_toArray, List.set_cons_zero, List.set_cons_succ]
  refine wpAnyH_done (by kernel_rfl) ?_ _
  go_wp2_with fail
  go_ret
  refine ⟨⟨_, rfl⟩, unhide H3, fun j hj a b c => ?_, ?_⟩
  · rw [hg0] at hj
    have h1 : W1.heap[j]? = W.heap[j]? := (unhide BL).block j hj
    have l1 : j < W1.drew.heap.size := Nat.lt_of_lt_of_le hj c2
    rw [unhide O3 j (Nat.lt_of_lt_of_le l1 (unhide S2)) a b c, unhide O2 j l1 a b c]
    exact h1
  · rw [hg0]; exact Nat.le_trans c2 (Nat.le_trans (unhide S2) (unhide S3))
set_option maxHeartbeats 4000000 in
set_option maxRecDepth 100000 in
theorem softStep_eight (h : Fb w bf bc gb m k last W) (x : Stp) (h7 : x.kind = 8) :
    Calls Tryz.prog 17 #[.pointer (some ⟨bf, 0, none⟩), .pointer (some ⟨gb, 0, none⟩), .agg (stpA x)] W fun e w' => (∃ v, e = .returned (.bool v)) ∧ Fb w bf bc gb m ((Img.syn m 8 k).2) last w' ∧ Oth bf bc gb W w' ∧ W.heap.size ≤ w'.heap.size := by
  obtain ⟨kind, dir, toDir, p, name, tu, text⟩ := x
  dsimp only at h7 ⊢
  subst h7
  have H0 := hide (h.call ((Below.refl W.heap.size W).alloc (Nat.le_refl _) (.cells (stpA ⟨8, dir, toDir, p, name, tu, text⟩) 37)))
  have BL := hide (show Below W.heap.size W (W.alloc (.cells (stpA ⟨8, dir, toDir, p, name, tu, text⟩) 37)) from (Below.refl _ W).alloc (Nat.le_refl _) _)
  clear h
  go_enter Tryz.func17, Tryz.ntmps17
  obtain ⟨p0, l0, l1, _, _⟩ := (unhide H0).fo.cells
  go_wp2_with fail
  refine ((unhide H0).fo.sync).mono ?_
  rintro e w2 ⟨rfl, f2, m2⟩
  obtain ⟨q2, o2, s2⟩ := (unhide H0).fmut f2 m2
  have H2 := hide q2
  have O2 := hide o2
  have S2 := hide s2
  clear q2 o2 s2 f2 m2 p0 l0 l1
  go_wp2_with fail
  refine (Sft.bedSync (unhide H2).bed).mono ?_
  rintro e w3 ⟨⟨n, rfl⟩, f3, m3⟩
  obtain ⟨q3, o3, s3⟩ := (unhide H2).bmut f3 m3
  have H3 := hide q3
  have O3 := hide o3
  have S3 := hide s3
  clear q3 o3 s3 f3 m3
  go_wp2_with fail
  go_ret
  refine ⟨⟨_, rfl⟩, unhide H3, fun j hj a b c => ?_, Nat.le_trans (unhide BL).size (Nat.le_trans (unhide S2) (unhide S3))⟩
  have l1 := Nat.lt_of_lt_of_le hj (unhide BL).size
  rw [unhide O3 j (Nat.lt_of_lt_of_le l1 (unhide S2)) a b c, unhide O2 j l1 a b c]
  exact (unhide BL).block j hj
set_option maxHeartbeats 4000000 in
set_option maxRecDepth 100000 in
theorem softStep_nine (h : Fb w bf bc gb m k last W) (x : Stp) (h7 : x.kind = 9) :
    Calls Tryz.prog 17 #[.pointer (some ⟨bf, 0, none⟩), .pointer (some ⟨gb, 0, none⟩), .agg (stpA x)] W fun e w' => (∃ v, e = .returned (.bool v)) ∧ Fb w bf bc gb m (k) last w' ∧ Oth bf bc gb W w' ∧ W.heap.size ≤ w'.heap.size := by
  obtain ⟨kind, dir, toDir, p, name, tu, text⟩ := x
  dsimp only at h7 ⊢
  subst h7
  have H0 := hide (h.call ((Below.refl W.heap.size W).alloc (Nat.le_refl _) (.cells (stpA ⟨9, dir, toDir, p, name, tu, text⟩) 37)))
  have BL := hide (show Below W.heap.size W (W.alloc (.cells (stpA ⟨9, dir, toDir, p, name, tu, text⟩) 37)) from (Below.refl _ W).alloc (Nat.le_refl _) _)
  clear h
  go_enter Tryz.func17, Tryz.ntmps17
  go_wp2_with fail
  go_ret
  exact ⟨⟨_, rfl⟩, unhide H0, Oth.of_below (unhide BL), (unhide BL).size⟩
theorem softStep_none (h : Fb w bf bc gb m k last W) (x : Stp) (hx : x.kind = 7 ∨ x.kind = 8 ∨ x.kind = 9) :
    Calls Tryz.prog 17 #[.pointer (some ⟨bf, 0, none⟩), .pointer (some ⟨gb, 0, none⟩), .agg (stpA x)] W fun e w' => (∃ v, e = .returned (.bool v)) ∧ Fb w bf bc gb m (Img.sdisk m k x) last w' ∧ Oth bf bc gb W w' ∧ W.heap.size ≤ w'.heap.size := by
  unfold Img.sdisk
  rcases hx with e | e | e
  · rw [if_pos e]; exact softStep_seven h x e
  · rw [if_neg (by omega), if_pos e]; exact softStep_eight h x e
  · rw [if_neg (by omega), if_neg (by omega)]; exact softStep_nine h x e
theorem Img.Lies.sdisk (hn : m.check = 0) (h : Img.Lies m k) (x : Stp) : Img.Lies m (Img.sdisk m k x) := by
  unfold Img.sdisk
  split
  · exact h.write hn _
  · split
    · exact h.syn hn 8
    · exact h
end
end Go.Proofs.YtmlhalhjfcfagabGreat
