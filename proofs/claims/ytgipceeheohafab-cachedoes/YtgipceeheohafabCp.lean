/-
  The walks of eiderdownref's Bed (as Cn), and of eiderdownlaw.CacheDoes.
-/
import Derived.Test.YtgipceeheohafabCk
namespace Go.Proofs.Ytgipceeheohafab
open Go.RowKit
section
variable {cs ds tl : Array Value}
theorem app3_fst (h1 : cs.size = 94) : (cs ++ (ds ++ tl)).extract 0 (0 + 94) = cs := app_fst h1
theorem app3_snd (h1 : cs.size = 94) (h2 : ds.size = 94) : (cs ++ (ds ++ tl)).extract 94 (94 + 94) = ds := by
  refine Array.ext_getElem? fun i => ?_
  rw [Array.getElem?_extract]
  by_cases hi : i < 94
  · rw [if_pos (by simp; omega), Array.getElem?_append, if_neg (by omega), Array.getElem?_append, if_pos (by omega)]; congr 1; omega
  · rw [if_neg (by omega), Array.getElem?_eq_none (by omega)]
theorem splice3_snd {es : Array Value} (h1 : cs.size = 94) (h2 : ds.size = 94) (h3 : es.size = 94) : splice (cs ++ (ds ++ tl)) 94 es = cs ++ (es ++ tl) := by
  refine Array.ext_getElem? fun i => ?_
  rw [splice_get (by simp; omega), Array.getElem?_append, Array.getElem?_append, Array.getElem?_append, Array.getElem?_append]
  simp only [h1, h2, h3]
  by_cases hi : i < 94
  · rw [if_pos hi, if_pos hi, if_pos hi]
  · by_cases hj : i < 188
    · rw [if_neg hi, if_pos (by omega), if_neg hi, if_pos (by omega)]
    · rw [if_neg hi, if_neg (by omega), if_neg hi, if_neg (by omega), if_neg hi, if_neg (by omega)]
end
set_option maxRecDepth 100000 in
set_option maxHeartbeats 2000000 in
theorem bWrite_any (g : Nat) (cs ds tl : Array Value) (m k : Img) (hi : IsImg cs m) (hj : IsImg ds k) (b : Int) (w : World) (hg : w.heap[g]? = some (.cells (cs ++ (ds ++ tl)) 54)) :
    Calls Try.prog 20 #[.pointer (some ⟨g, 0, none⟩), .int .i64 b] w fun e w' => ∃ es, e = .returned (.bool (Img.inB b)) ∧ IsImg es (Img.write m k b) ∧ Mut w w' g (cs ++ (es ++ tl)) 54 := by
  have z1 := hi.size
  have z2 := hj.size
  have z := zero_img.1
  have hgl : g < w.heap.size := (Array.getElem?_eq_some_iff.1 hg).1
  go_enter Try.func20, Try.ntmps20
  go_wp2_with fail
  go_cut [5, 6] (fun p q wx => ∃ gx es, p = .pointer (some ⟨gx, 0, none⟩) ∧ q = .bool (Img.inB b) ∧ IsImg es (Img.write m k b) ∧ wx.heap[gx]? = some (.cells es 34) ∧ Below w.heap.size w wx)
  case first =>
    have hB0 : Below w.heap.size w w.drew := (Below.refl _ _).drew
    have hl0 : g < w.drew.heap.size := hgl
    refine wp_region_held_drew (S := fun W => W.heap[g]? = some (.cells (cs ++ (ds ++ tl)) 54)) (by kernel_rfl) hg (fun hS => ?_)
    refine wpAnyH_take (i := 0) (oi := { dst := some 8, op := Op.move (Operand.tmp 0), type := 52, pos := "base.go:561", after := #[], guard := none }) (v := .pointer (some ⟨g, 0, none⟩)) rfl (by kernel_rfl) (by kernel_rfl) (by kernel_rfl) (fun _ _ _ h => h) (Or.inl ⟨by kernel_rfl, fun W h => (by first | kernel_rfl | go_simp)⟩) hS ?_
    refine wpAnyH_take (i := 1) (oi := { dst := some 9, op := Op.nilCheck (Operand.tmp 8), type := 0, pos := "base.go:561", after := #[{ on := 0, ground := Ground.data }], guard := none }) (v := .pointer (some ⟨g, 0, none⟩)) rfl (by kernel_rfl) (by kernel_rfl) (by kernel_rfl) (fun _ _ _ h => h) (Or.inl ⟨by kernel_rfl, fun W h => (by first | kernel_rfl | go_simp)⟩) hS ?_
    refine wpAnyH_take (i := 2) (oi := { dst := some 10, op := Op.fieldAddr 54 (Operand.tmp 9) 0, type := 0, pos := "base.go:561", after := #[{ on := 1, ground := Ground.data }], guard := none }) (v := .pointer (some ⟨g, 0, none⟩)) rfl (by kernel_rfl) (by kernel_rfl) (by kernel_rfl) (fun _ _ _ h => h) (Or.inl ⟨by kernel_rfl, fun W h => (by first | kernel_rfl | go_simp)⟩) hS ?_
    refine wpAnyH_take (i := 3) (oi := { dst := some 11, op := Op.move (Operand.tmp 0), type := 52, pos := "base.go:561", after := #[], guard := none }) (v := .pointer (some ⟨g, 0, none⟩)) rfl (by kernel_rfl) (by kernel_rfl) (by kernel_rfl) (fun _ _ _ h => h) (Or.inl ⟨by kernel_rfl, fun W h => (by first | kernel_rfl | go_simp)⟩) hS ?_
    refine wpAnyH_take (i := 4) (oi := { dst := some 12, op := Op.nilCheck (Operand.tmp 11), type := 0, pos := "base.go:561", after := #[{ on := 3, ground := Ground.data }], guard := none }) (v := .pointer (some ⟨g, 0, none⟩)) rfl (by kernel_rfl) (by kernel_rfl) (by kernel_rfl) (fun _ _ _ h => h) (Or.inl ⟨by kernel_rfl, fun W h => (by first | kernel_rfl | go_simp)⟩) hS ?_
    refine wpAnyH_take (i := 5) (oi := { dst := some 13, op := Op.fieldAddr 54 (Operand.tmp 12) 1, type := 0, pos := "base.go:561", after := #[{ on := 4, ground := Ground.data }], guard := none }) (v := .pointer (some ⟨g, 94, none⟩)) rfl (by kernel_rfl) (by kernel_rfl) (by kernel_rfl) (fun _ _ _ h => h) (Or.inl ⟨by kernel_rfl, fun W h => (by first | kernel_rfl | go_simp)⟩) hS ?_
    refine wpAnyH_take (i := 6) (oi := { dst := some 14, op := Op.move (Operand.tmp 1), type := 3, pos := "base.go:561", after := #[], guard := none }) (v := .int .i64 b) rfl (by kernel_rfl) (by kernel_rfl) (by kernel_rfl) (fun _ _ _ h => h) (Or.inl ⟨by kernel_rfl, fun W h => (by first | kernel_rfl | go_simp)⟩) hS ?_
    generalize w.drew = W0 at hS hB0 hl0 ⊢
    refine wpAnyH_ready (rs := [7, 11]) (by kernel_rfl) (by simp) ?_
    refine AllReadyH.cons (o := { dst := some 15, op := Op.call { callee := Callee.value (Operand.func 46), args := #[Operand.tmp 10, Operand.tmp 13, Operand.tmp 14], argTypes := #[38, 38, 3] }, type := 39, pos := "base.go:561", after := #[{ on := 2, ground := Ground.data }, { on := 5, ground := Ground.data }, { on := 6, ground := Ground.data }], guard := none }) rfl (fun K hK => ?_) (AllReadyH.cons (o := { dst := some 5, op := Op.alloc 34, type := 0, pos := "base.go:561", after := #[], guard := none }) rfl (fun K hK => ?_) AllReadyH.nil)
    · skip
      go_simp
      refine (rWrite_any (ob := 0) (oc := 94) g g m k b _ (hasAt_of hS (by simp; omega) (app3_fst z1) hi) ⟨ds, _, _, hS, by simp; omega, app3_snd z1 z2, hj⟩).mono ?_
      rintro e w1 ⟨⟨es, rfl, he⟩, hb1⟩
      go_wp2_with fail
      refine hK.out _ _ (by rw [hb1.block _ hl0]; exact hS) (fun hS1 => ?_)
      clear hK K
      refine wpAnyH_take (i := 8) (oi := { dst := some 7, op := Op.move (Operand.tmp 15), type := 39, pos := "base.go:561", after := #[{ on := 7, ground := Ground.data }], guard := none }) (v := .tuple #[.agg es, .bool (Img.inB b)]) rfl (by kernel_rfl) (by kernel_rfl) (by kernel_rfl) (fun _ _ _ h => h) (Or.inl ⟨by kernel_rfl, fun W h => (by first | kernel_rfl | go_simp)⟩) hS1 ?_
      refine wpAnyH_take (i := 9) (oi := { dst := some 16, op := Op.extract (Operand.tmp 7) 0, type := 34, pos := "base.go:561", after := #[{ on := 8, ground := Ground.data }], guard := none }) (v := .agg es) rfl (by kernel_rfl) (by kernel_rfl) (by kernel_rfl) (fun _ _ _ h => h) (Or.inl ⟨by kernel_rfl, fun W h => (by first | kernel_rfl | go_simp)⟩) hS1 ?_
      refine wpAnyH_take (i := 10) (oi := { dst := some 17, op := Op.extract (Operand.tmp 7) 1, type := 4, pos := "base.go:561", after := #[{ on := 8, ground := Ground.data }, { on := 12, ground := Ground.gcOnly Departure.lateStores }], guard := none }) (v := .bool (Img.inB b)) rfl (by kernel_rfl) (by kernel_rfl) (by kernel_rfl) (fun _ _ _ h => h) (Or.inl ⟨by kernel_rfl, fun W h => (by first | kernel_rfl | go_simp)⟩) hS1 ?_
      refine wpAnyH_ready (rs := [11]) (by kernel_rfl) (by simp) ?_
      refine AllReadyH.cons (o := { dst := some 5, op := Op.alloc 34, type := 0, pos := "base.go:561", after := #[], guard := none }) rfl (fun K hK => ?_) AllReadyH.nil
      go_simp
      have hl1 : g < w1.heap.size := Nat.lt_of_lt_of_le hl0 hb1.size
      refine hK.out _ _ (by rw [Below.heap_alloc _ _ _ hl1]; exact hS1) (fun hS2 => ?_)
      clear hK K
      refine wpAnyH_ready (rs := [12]) (by kernel_rfl) (by simp) ?_
      refine AllReadyH.cons (o := { dst := none, op := Op.store 34 (Operand.tmp 5) (Operand.tmp 16), type := 0, pos := "base.go:561", after := #[{ on := 11, ground := Ground.data }, { on := 9, ground := Ground.data }, { on := 7, ground := Ground.chain }, { on := 0, ground := Ground.phase }, { on := 1, ground := Ground.phase }, { on := 2, ground := Ground.phase }, { on := 3, ground := Ground.phase }, { on := 4, ground := Ground.phase }, { on := 5, ground := Ground.phase }, { on := 6, ground := Ground.phase }, { on := 7, ground := Ground.phase }, { on := 8, ground := Ground.phase }, { on := 9, ground := Ground.phase }, { on := 10, ground := Ground.textOnly Departure.lateStores }, { on := 11, ground := Ground.phase }], guard := none }) rfl (fun K hK => ?_) AllReadyH.nil
      rw [if_pos (by kernel_rfl)]
      refine wp_store_row 34 (.tmp 5) (.tmp 16) rfl (w1.heap.size) es (by kernel_rfl) (by kernel_rfl) 34 zeroCells (heap_alloc_last _ _) (img_info he.size) (zero_size he) he.all ?_
      refine hK.out _ _ (by rw [setRow_other _ _ _ _ (by omega)]; exact hS2) (fun hS3 => ?_)
      clear hK K
      refine wpAnyH_take (i := 13) (oi := { dst := some 6, op := Op.assign (Operand.tmp 17), type := 4, pos := "base.go:561", after := #[{ on := 10, ground := Ground.data }, { on := 12, ground := Ground.chain }, { on := 0, ground := Ground.phase }, { on := 1, ground := Ground.phase }, { on := 2, ground := Ground.phase }, { on := 3, ground := Ground.phase }, { on := 4, ground := Ground.phase }, { on := 5, ground := Ground.phase }, { on := 6, ground := Ground.phase }, { on := 7, ground := Ground.phase }, { on := 8, ground := Ground.phase }, { on := 9, ground := Ground.phase }, { on := 10, ground := Ground.phase }, { on := 11, ground := Ground.phase }, { on := 12, ground := Ground.phase }], guard := none }) (v := .bool (Img.inB b)) rfl (by kernel_rfl) (by kernel_rfl) (by kernel_rfl) (fun _ _ _ h => h) (Or.inl ⟨by kernel_rfl, fun W h => (by first | kernel_rfl | go_simp)⟩) hS3 ?_
      refine wpAnyH_done (by kernel_rfl) ?_ _
      simp only [Act.put, List.setIfInBounds_toArray, List.set_cons_zero, List.set_cons_succ]
      go_wp2_with fail
      go_meet
      exact ⟨_, es, rfl, rfl, he, setRow_heap _ _ _ _ _ _ (heap_alloc_last _ _), below_setRow ((hB0.trans (hb1.mono hB0.size)).alloc (hB0.trans (hb1.mono hB0.size)).size _) (hB0.trans (hb1.mono hB0.size)).size _⟩
    · go_simp
      refine hK.out _ _ (by rw [Below.heap_alloc _ _ _ hl0]; exact hS) (fun hS1 => ?_)
      clear hK K
      refine wpAnyH_ready (rs := [7]) (by kernel_rfl) (by simp) ?_
      refine AllReadyH.cons (o := { dst := some 15, op := Op.call { callee := Callee.value (Operand.func 46), args := #[Operand.tmp 10, Operand.tmp 13, Operand.tmp 14], argTypes := #[38, 38, 3] }, type := 39, pos := "base.go:561", after := #[{ on := 2, ground := Ground.data }, { on := 5, ground := Ground.data }, { on := 6, ground := Ground.data }], guard := none }) rfl (fun K hK => ?_) AllReadyH.nil
      go_simp
      refine (rWrite_any (ob := 0) (oc := 94) g g m k b _ (hasAt_of hS1 (by simp; omega) (app3_fst z1) hi) ⟨ds, _, _, hS1, by simp; omega, app3_snd z1 z2, hj⟩).mono ?_
      rintro e w1 ⟨⟨es, rfl, he⟩, hb1⟩
      go_wp2_with fail
      refine hK.out _ _ (by rw [hb1.block _ (by simp; omega)]; exact hS1) (fun hS2 => ?_)
      clear hK K
      refine wpAnyH_take (i := 8) (oi := { dst := some 7, op := Op.move (Operand.tmp 15), type := 39, pos := "base.go:561", after := #[{ on := 7, ground := Ground.data }], guard := none }) (v := .tuple #[.agg es, .bool (Img.inB b)]) rfl (by kernel_rfl) (by kernel_rfl) (by kernel_rfl) (fun _ _ _ h => h) (Or.inl ⟨by kernel_rfl, fun W h => (by first | kernel_rfl | go_simp)⟩) hS2 ?_
      refine wpAnyH_take (i := 9) (oi := { dst := some 16, op := Op.extract (Operand.tmp 7) 0, type := 34, pos := "base.go:561", after := #[{ on := 8, ground := Ground.data }], guard := none }) (v := .agg es) rfl (by kernel_rfl) (by kernel_rfl) (by kernel_rfl) (fun _ _ _ h => h) (Or.inl ⟨by kernel_rfl, fun W h => (by first | kernel_rfl | go_simp)⟩) hS2 ?_
      refine wpAnyH_take (i := 10) (oi := { dst := some 17, op := Op.extract (Operand.tmp 7) 1, type := 4, pos := "base.go:561", after := #[{ on := 8, ground := Ground.data }, { on := 12, ground := Ground.gcOnly Departure.lateStores }], guard := none }) (v := .bool (Img.inB b)) rfl (by kernel_rfl) (by kernel_rfl) (by kernel_rfl) (fun _ _ _ h => h) (Or.inl ⟨by kernel_rfl, fun W h => (by first | kernel_rfl | go_simp)⟩) hS2 ?_
      have hr : w1.heap[W0.heap.size]? = some (.cells zeroCells 34) := by rw [hb1.block _ (by simp)]; exact heap_alloc_last _ _
      have hB1 : Below w.heap.size w w1 := (hB0.alloc hB0.size _).trans (hb1.mono (by have := hB0.size; simp; omega))
      refine wpAnyH_ready (rs := [12]) (by kernel_rfl) (by simp) ?_
      refine AllReadyH.cons (o := { dst := none, op := Op.store 34 (Operand.tmp 5) (Operand.tmp 16), type := 0, pos := "base.go:561", after := #[{ on := 11, ground := Ground.data }, { on := 9, ground := Ground.data }, { on := 7, ground := Ground.chain }, { on := 0, ground := Ground.phase }, { on := 1, ground := Ground.phase }, { on := 2, ground := Ground.phase }, { on := 3, ground := Ground.phase }, { on := 4, ground := Ground.phase }, { on := 5, ground := Ground.phase }, { on := 6, ground := Ground.phase }, { on := 7, ground := Ground.phase }, { on := 8, ground := Ground.phase }, { on := 9, ground := Ground.phase }, { on := 10, ground := Ground.textOnly Departure.lateStores }, { on := 11, ground := Ground.phase }], guard := none }) rfl (fun K hK => ?_) AllReadyH.nil
      rw [if_pos (by kernel_rfl)]
      refine wp_store_row 34 (.tmp 5) (.tmp 16) rfl (W0.heap.size) es (by kernel_rfl) (by kernel_rfl) 34 zeroCells hr (img_info he.size) (zero_size he) he.all ?_
      refine hK.out _ _ (by rw [setRow_other _ _ _ _ (by omega)]; exact hS2) (fun hS3 => ?_)
      clear hK K
      refine wpAnyH_take (i := 13) (oi := { dst := some 6, op := Op.assign (Operand.tmp 17), type := 4, pos := "base.go:561", after := #[{ on := 10, ground := Ground.data }, { on := 12, ground := Ground.chain }, { on := 0, ground := Ground.phase }, { on := 1, ground := Ground.phase }, { on := 2, ground := Ground.phase }, { on := 3, ground := Ground.phase }, { on := 4, ground := Ground.phase }, { on := 5, ground := Ground.phase }, { on := 6, ground := Ground.phase }, { on := 7, ground := Ground.phase }, { on := 8, ground := Ground.phase }, { on := 9, ground := Ground.phase }, { on := 10, ground := Ground.phase }, { on := 11, ground := Ground.phase }, { on := 12, ground := Ground.phase }], guard := none }) (v := .bool (Img.inB b)) rfl (by kernel_rfl) (by kernel_rfl) (by kernel_rfl) (fun _ _ _ h => h) (Or.inl ⟨by kernel_rfl, fun W h => (by first | kernel_rfl | go_simp)⟩) hS3 ?_
      refine wpAnyH_done (by kernel_rfl) ?_ _
      simp only [Act.put, List.setIfInBounds_toArray, List.set_cons_zero, List.set_cons_succ]
      go_wp2_with fail
      go_meet
      exact ⟨_, es, rfl, rfl, he, setRow_heap _ _ _ _ _ _ hr, below_setRow hB1 hB0.size _⟩
  case rest =>
    obtain ⟨gx, es, rfl, rfl, he, hr, hB⟩ := hcut
    have r1 := hide hr
    have r2 := hide (show wc.heap[g]? = some (.cells (cs ++ (ds ++ tl)) 54) by rw [hB.block _ hgl]; exact hg)
    have hle : 94 + es.size ≤ (cs ++ (ds ++ tl)).size := by simp [he.size]; omega
    have hsp := splice3_snd (tl := tl) z1 z2 he.size
    go_wp2_with (first | (have hx := unhide r1; refine wpList_load_row rfl 34 _ rfl gx rfl 34 es (0, 0) _ hx img_under rfl (img_info he.size) ?_; clear hx r1) | (have hx := unhide r2; refine wpList_store_part rfl 34 _ _ rfl g 94 es rfl rfl 54 (cs ++ (ds ++ tl)) hx (img_info he.size) hle he.all ?_; clear hx r2; rw [hsp]))
    go_ret
    exact ⟨es, rfl, he, Mut.of hB hgl rfl hg⟩
set_option maxRecDepth 100000 in
set_option maxHeartbeats 2000000 in
theorem bSync_any (g : Nat) (cs ds tl : Array Value) (m k : Img) (hi : IsImg cs m) (hj : IsImg ds k) (w : World) (hg : w.heap[g]? = some (.cells (cs ++ (ds ++ tl)) 54)) :
    Calls Try.prog 31 #[.pointer (some ⟨g, 0, none⟩)] w fun e w' => ∃ es, e = .returned (.int .i64 ((Img.syn m 8 k).1 : Nat)) ∧ IsImg es (Img.syn m 8 k).2 ∧ Mut w w' g (cs ++ (es ++ tl)) 54 := by
  have hgl : g < w.heap.size := (Array.getElem?_eq_some_iff.1 hg).1
  have z1 := hi.size
  obtain ⟨R, hR⟩ : ∃ R, R = Img.syn m 8 k := ⟨_, rfl⟩
  rw [← hR]
  go_enter Try.func31, Try.ntmps31
  go_wp2_with fail
  go_loopw [3] (fun i wr => ∃ (r : Nat) (es : Array Value) (K : Img), r ≤ 8 ∧ i = .int .i64 r ∧ Hid (IsImg es K) ∧ Hid (Mut w wr g (cs ++ (es ++ tl)) 54) ∧ Hid (R.1 = (Img.syn m (8 - r) K).1 + r ∧ R.2 = (Img.syn m (8 - r) K).2)) (fun i _ => 8 - (intOf i).toNat)
  case atStart => exact ⟨0, ds, k, by omega, rfl, hide hj, hide (Mut.refl' (Below.refl _ _) hgl hg), hide ⟨by rw [hR]; rfl, by rw [hR]⟩⟩
  case round =>
    obtain ⟨r, es, K, hr, rfl, HI, HM, HR⟩ := hrel
    by_cases hlt : r < 8
    · have t8 : decide ((r : Int) < 8) = true := by simp; omega
      have q := eqlImg hi (unhide HI)
      have ze := (unhide HI).size
      have HMd := hide ((unhide HM).call hgl (Below.refl _ _).drew)
      go_wp2_with fail
      refine wp_region_held_drew (S := fun W => W.heap[g]? = some (.cells (cs ++ (es ++ tl)) 54)) (by kernel_rfl) (unhide HM).row (fun hS => ?_)
      refine wpAnyH_take (i := 0) (oi := { dst := some 9, op := Op.move (Operand.tmp 0), type := 52, pos := "base.go:569", after := #[], guard := none }) (v := .pointer (some ⟨g, 0, none⟩)) rfl (by kernel_rfl) (by kernel_rfl) (by kernel_rfl) (fun _ _ _ h => h) (Or.inl ⟨by kernel_rfl, fun W h => (by first | kernel_rfl | go_simp)⟩) hS ?_
      refine wpAnyH_take (i := 1) (oi := { dst := some 10, op := Op.nilCheck (Operand.tmp 9), type := 0, pos := "base.go:569", after := #[{ on := 0, ground := Ground.data }], guard := none }) (v := .pointer (some ⟨g, 0, none⟩)) rfl (by kernel_rfl) (by kernel_rfl) (by kernel_rfl) (fun _ _ _ h => h) (Or.inl ⟨by kernel_rfl, fun W h => (by first | kernel_rfl | go_simp)⟩) hS ?_
      refine wpAnyH_take (i := 2) (oi := { dst := some 11, op := Op.fieldAddr 54 (Operand.tmp 10) 0, type := 0, pos := "base.go:569", after := #[{ on := 1, ground := Ground.data }], guard := none }) (v := .pointer (some ⟨g, 0, none⟩)) rfl (by kernel_rfl) (by kernel_rfl) (by kernel_rfl) (fun _ _ _ h => h) (Or.inl ⟨by kernel_rfl, fun W h => (by first | kernel_rfl | go_simp)⟩) hS ?_
      refine wpAnyH_take (i := 3) (oi := { dst := some 12, op := Op.load 34 (Operand.tmp 11), type := 34, pos := "base.go:569", after := #[{ on := 2, ground := Ground.data }], guard := none }) (v := .agg cs) rfl (by kernel_rfl) (by kernel_rfl) (by kernel_rfl) (fun _ _ _ h => h) (Or.inl ⟨by kernel_rfl, fun W h => run_exec_load_part 34 (.tmp 11) (by kernel_rfl) g 0 94 (by kernel_rfl) W 54 (cs ++ (es ++ tl)) cs _ h img_under rfl zero_img.2 (by simp; omega) (app3_fst z1)⟩) hS ?_
      refine wpAnyH_take (i := 4) (oi := { dst := some 13, op := Op.move (Operand.tmp 0), type := 52, pos := "base.go:569", after := #[], guard := none }) (v := .pointer (some ⟨g, 0, none⟩)) rfl (by kernel_rfl) (by kernel_rfl) (by kernel_rfl) (fun _ _ _ h => h) (Or.inl ⟨by kernel_rfl, fun W h => (by first | kernel_rfl | go_simp)⟩) hS ?_
      refine wpAnyH_take (i := 5) (oi := { dst := some 14, op := Op.nilCheck (Operand.tmp 13), type := 0, pos := "base.go:569", after := #[{ on := 4, ground := Ground.data }], guard := none }) (v := .pointer (some ⟨g, 0, none⟩)) rfl (by kernel_rfl) (by kernel_rfl) (by kernel_rfl) (fun _ _ _ h => h) (Or.inl ⟨by kernel_rfl, fun W h => (by first | kernel_rfl | go_simp)⟩) hS ?_
      refine wpAnyH_take (i := 6) (oi := { dst := some 15, op := Op.fieldAddr 54 (Operand.tmp 14) 1, type := 0, pos := "base.go:569", after := #[{ on := 5, ground := Ground.data }], guard := none }) (v := .pointer (some ⟨g, 94, none⟩)) rfl (by kernel_rfl) (by kernel_rfl) (by kernel_rfl) (fun _ _ _ h => h) (Or.inl ⟨by kernel_rfl, fun W h => (by first | kernel_rfl | go_simp)⟩) hS ?_
      refine wpAnyH_take (i := 7) (oi := { dst := some 16, op := Op.load 34 (Operand.tmp 15), type := 34, pos := "base.go:569", after := #[{ on := 6, ground := Ground.data }], guard := none }) (v := .agg es) rfl (by kernel_rfl) (by kernel_rfl) (by kernel_rfl) (fun _ _ _ h => h) (Or.inl ⟨by kernel_rfl, fun W h => run_exec_load_part 34 (.tmp 15) (by kernel_rfl) g 94 94 (by kernel_rfl) W 54 (cs ++ (es ++ tl)) es _ h img_under rfl zero_img.2 (by simp; omega) (app3_snd z1 ze)⟩) hS ?_
      refine wpAnyH_take (i := 8) (oi := { dst := some 17, op := Op.binOp BinOp.eql 34 (Operand.tmp 12) (Operand.tmp 16) 34, type := 4, pos := "base.go:569", after := #[{ on := 3, ground := Ground.data }, { on := 7, ground := Ground.data }], guard := none }) (v := .bool (Img.sameImg m K)) rfl (by kernel_rfl) (by kernel_rfl) (by kernel_rfl) (fun _ _ _ h => h) (Or.inl ⟨by kernel_rfl, fun W h => run_exec_eql 34 34 (.tmp 12) (.tmp 16) (by kernel_rfl) cs es (by kernel_rfl) (by kernel_rfl) _ Try.eqGuardType34 q W⟩) hS ?_
      refine wpAnyH_done (by kernel_rfl) ?_ _
      simp only [Act.put, List.setIfInBounds_toArray, List.set_cons_zero, List.set_cons_succ]
      have HM1 := HMd
      clear HM HMd q
      cases hc : Img.sameImg m K
      · go_wp2_with fail
        go_loopw [4] (fun i wr => ∃ (j : Int) (c : Nat) (fs : Array Value) (D : Img), c ≤ 14 ∧ j = (c : Int) - 1 ∧ i = .int .i64 j ∧ Hid (IsImg fs D) ∧ Hid (Mut w wr g (cs ++ (fs ++ tl)) 54) ∧ Hid (Img.down m D c = Img.down m K 14)) (fun i _ => (intOf i + 1).toNat)
        case atStart => exact ⟨13, 14, es, K, by omega, by omega, rfl, HI, HM1, hide rfl⟩
        case round =>
          obtain ⟨j, c, fs, D, hc14, hjc, rfl, HI2, HM2, HD⟩ := hrel
          cases c with
          | zero =>
            have tg : decide (j ≥ 0) = false := by simp; omega
            have tg2 : decide (0 ≤ j) = false := by simp; omega
            clear hjc
            have HR2 := hide (show R.1 = (Img.syn m (8 - (r + 1)) D).1 + (r + 1) ∧ R.2 = (Img.syn m (8 - (r + 1)) D).2 from by
              have h1 := unhide HR
              rw [show 8 - r = (8 - (r + 1)) + 1 by omega, Img.syn_step hc] at h1
              have h2 : D = Img.down m K 14 := unhide HD
              rw [h2]
              exact ⟨by have := h1.1; simp at this; omega, h1.2⟩)
            go_wp2_with fail
            go_roundw
            case rel => exact ⟨r + 1, fs, D, by omega, by go_num, HI2, HM2, HR2⟩
            case measure => simp [intOf]; omega
          | succ c =>
            have tg : decide (j ≥ 0) = true := by simp; omega
            have tg2 : decide (0 ≤ j) = true := by simp; omega
            have hj0 : 0 ≤ j := by omega
            have hj13 : j ≤ 13 := by omega
            have HJ := hide (show j = (c : Int) by omega)
            clear hjc
            go_wp2_with fail
            refine (bWrite_any g cs fs tl m D hi (unhide HI2) j _ (unhide HM2).row).mono ?_
            rintro e w2 ⟨fs2, rfl, hI3, hM3⟩
            have HM3 := hide ((unhide HM2).trans hM3)
            have HI3 := hide hI3
            have HD3 := hide (show Img.down m (Img.write m D j) c = Img.down m K 14 from by rw [unhide HJ]; exact unhide HD)
            clear HM2 hM3 hI3 HI2 HD
            go_wp2_with fail
            go_roundw
            case rel => exact ⟨_, c, fs2, _, by omega, by have := unhide HJ; omega, rfl, HI3, HM3, HD3⟩
            case measure => simp [intOf]; omega
      · have HE := hide (show R.1 = r ∧ R.2 = K from by
          have h1 := unhide HR
          rw [Img.syn_stop hc] at h1
          exact ⟨by have := h1.1; simp at this; omega, h1.2⟩)
        go_wp2_with fail
        go_ret
        exact ⟨es, by rw [(unhide HE).1]; rfl, by rw [(unhide HE).2]; exact unhide HI, unhide HM1⟩
    · have t8 : decide ((r : Int) < 8) = false := by simp; omega
      have er : r = 8 := by omega
      subst er
      have HE := hide (show R.1 = 8 ∧ R.2 = K from by
        have h1 := unhide HR
        exact ⟨by have := h1.1; simp [Img.syn] at this; omega, h1.2⟩)
      go_wp2_with fail
      go_ret
      exact ⟨es, by rw [(unhide HE).1]; rfl, by rw [(unhide HE).2]; exact unhide HI, unhide HM⟩
set_option maxHeartbeats 1000000 in
theorem bIno_any (g : Nat) (m k : Img) (w : World) (hm : HasAt w g 0 m) (hk : HasAt w g 94 k) :
    Calls Try.prog 22 #[.pointer (some ⟨g, 0, none⟩)] w fun e w' => e = .returned (.int .i64 (Img.freeIno m k)) ∧ w' = w := by
  have E : Img.freeIno m k = Img.firstI (fun n => !m.live n && (k.refs (n : Int) == 0)) 8 := rfl
  rw [E]
  clear E
  have hl := hm.lt
  go_enter Try.func22, Try.ntmps22
  go_wp2_with fail
  go_loop [3] (fun i => ∃ n : Nat, n ≤ 8 ∧ i = .int .i64 n ∧ Hid (∀ j, j < n → (!m.live j && (k.refs (j : Int) == 0)) = false)) (fun i => 8 - (intOf i).toNat)
  case atStart => exact ⟨0, by omega, rfl, hide fun j hj => by omega⟩
  case round =>
    obtain ⟨n, hn, rfl, HP⟩ := hrel
    by_cases hlt : n < 8
    · have t8 : decide ((n : Int) < 8) = true := by simp; omega
      have fl := hm.live n hlt
      rw [Nat.zero_add] at fl
      have C := hide (At.rLeads_any g k (n : Int) w hk)
      have NX := hide (fun (h : (!m.live n && (k.refs (n : Int) == 0)) = false) => forall_succ (p := fun j => (!m.live j && (k.refs (j : Int) == 0)) = false) (unhide HP) h)
      cases h1 : m.live n
      · rw [h1] at fl
        cases h2 : (k.refs (n : Int) == 0)
        · have W := hide (unhide NX (by simp only [h1, h2]; rfl))
          have h3 : ((k.refs (n : Int) : Nat) : Int) ≠ 0 := by simp at h2; omega
          generalize ((k.refs (n : Int) : Nat) : Int) = rr at C h3
          have h4 : (rr == 0) = false := by simpa using h3
          clear h2 h3 NX
          go_wp2_with fail
          refine (unhide C).mono ?_
          rintro e wz ⟨rfl, ez⟩
          rw [ez]
          clear ez wz C
          go_wp2_with fail
          exact ⟨⟨n + 1, by omega, by go_num, W⟩, by simp [intOf]; omega⟩
        · have HE := hide (Img.firstI_at (p := fun n => !m.live n && (k.refs (n : Int) == 0)) (by simp only [h1, h2]; rfl) (unhide HP) hlt)
          have h3 : k.refs (n : Int) = 0 := by simpa using h2
          rw [h3] at C
          clear h2 h3 NX
          go_wp2_with fail
          refine (unhide C).mono ?_
          rintro e wz ⟨rfl, ez⟩
          rw [ez]
          clear ez wz C
          go_wp2_with fail
          go_ret
          exact ⟨by rw [unhide HE]; rfl, rfl⟩
      · rw [h1] at fl
        have W := hide (unhide NX (by simp only [h1]; rfl))
        clear NX C
        go_wp2_with fail
        exact ⟨⟨n + 1, by omega, by go_num, W⟩, by simp [intOf]; omega⟩
    · have t8 : decide ((n : Int) < 8) = false := by simp; omega
      have HE := hide (Img.firstI_none (p := fun n => !m.live n && (k.refs (n : Int) == 0)) (n := 8) (fun j hj => unhide HP j (by omega)))
      go_wp2_with fail
      go_ret
      exact ⟨by rw [unhide HE]; rfl, rfl⟩
set_option maxHeartbeats 1000000 in
theorem bData_any (g : Nat) (m k : Img) (w : World) (hm : HasAt w g 0 m) (hk : HasAt w g 94 k) :
    Calls Try.prog 26 #[.pointer (some ⟨g, 0, none⟩)] w fun e w' => e = .returned (.int .i64 (Img.freeData m k)) ∧ w' = w := by
  have E : Img.freeData m k = Img.firstI (fun x => !m.holds (x : Int) && !k.holds (x : Int)) 9 := rfl
  rw [E]
  clear E
  have hl := hm.lt
  go_enter Try.func26, Try.ntmps26
  go_wp2_with fail
  go_loop [3] (fun i => ∃ n : Nat, n ≤ 9 ∧ i = .int .i64 n ∧ Hid (∀ j, j < n → (!m.holds (j : Int) && !k.holds (j : Int)) = false)) (fun i => 9 - (intOf i).toNat)
  case atStart => exact ⟨0, by omega, rfl, hide fun j hj => by omega⟩
  case round =>
    obtain ⟨n, hn, rfl, HP⟩ := hrel
    by_cases hlt : n < 9
    · have t9 : decide ((n : Int) < 9) = true := by simp; omega
      have C1 := hide (rHeld_any g m (n : Int) w hm)
      have C2 := hide (rHeld_any g k (n : Int) w hk)
      rw [Img.held_isD hlt] at C1 C2
      have NX := hide (fun (h : (!m.holds (n : Int) && !k.holds (n : Int)) = false) => forall_succ (p := fun j => (!m.holds (j : Int) && !k.holds (j : Int)) = false) (unhide HP) h)
      cases h1 : m.holds (n : Int)
      · rw [h1] at C1
        cases h2 : k.holds (n : Int)
        · rw [h2] at C2
          have HE := hide (Img.firstI_at (p := fun x => !m.holds (x : Int) && !k.holds (x : Int)) (by simp only [h1, h2]; rfl) (unhide HP) hlt)
          clear NX
          go_wp2_with fail
          refine (unhide C1).mono ?_
          rintro e wz ⟨rfl, ez⟩
          rw [ez]
          clear ez wz C1
          go_wp2_with fail
          refine (unhide C2).mono ?_
          rintro e wz ⟨rfl, ez⟩
          rw [ez]
          clear ez wz C2
          go_wp2_with fail
          go_ret
          exact ⟨by rw [unhide HE]; rfl, rfl⟩
        · rw [h2] at C2
          have W := hide (unhide NX (by simp only [h1, h2]; rfl))
          clear NX
          go_wp2_with fail
          refine (unhide C1).mono ?_
          rintro e wz ⟨rfl, ez⟩
          rw [ez]
          clear ez wz C1
          go_wp2_with fail
          refine (unhide C2).mono ?_
          rintro e wz ⟨rfl, ez⟩
          rw [ez]
          clear ez wz C2
          go_wp2_with fail
          exact ⟨⟨n + 1, by omega, by go_num, W⟩, by simp [intOf]; omega⟩
      · rw [h1] at C1
        have W := hide (unhide NX (by simp only [h1]; rfl))
        clear NX
        go_wp2_with fail
        refine (unhide C1).mono ?_
        rintro e wz ⟨rfl, ez⟩
        rw [ez]
        clear ez wz C1
        go_wp2_with fail
        exact ⟨⟨n + 1, by omega, by go_num, W⟩, by simp [intOf]; omega⟩
    · have t9 : decide ((n : Int) < 9) = false := by simp; omega
      have HE := hide (Img.firstI_none (p := fun x => !m.holds (x : Int) && !k.holds (x : Int)) (n := 9) (fun j hj => unhide HP j (by omega)))
      go_wp2_with fail
      go_ret
      exact ⟨by rw [unhide HE]; rfl, rfl⟩
set_option maxHeartbeats 1000000 in
theorem bSlot_any (g : Nat) (m k : Img) (d : Int) (w : World) (hm : HasAt w g 0 m) (hk : HasAt w g 94 k) :
    Calls Try.prog 24 #[.pointer (some ⟨g, 0, none⟩), .int .i64 d] w fun e w' => e = .returned (.int .i64 (Img.freeSlot m k d)) ∧ ∃ q, w' = w.drewN q := by
  have hl := hm.lt
  by_cases hd : 0 ≤ d ∧ d < 3
  · obtain ⟨e, rfl⟩ := Int.eq_ofNat_of_zero_le hd.1
    have he : e < 3 := by omega
    have E : Img.freeSlot m k (e : Int) = Img.firstI (fun s => !m.named e s && !k.named e s) 4 := by unfold Img.freeSlot; rw [if_pos hd, Int.toNat_natCast]
    rw [E]
    have t1 : decide ((e : Int) < 0) = false := by simp
    have t2 : decide (3 ≤ (e : Int)) = false := by simp; omega
    have t3 : decide ((e : Int) ≥ 3) = false := by simp; omega
    have hez : (e : Int) < 3 := by omega
    clear E hd
    go_enter Try.func24, Try.ntmps24
    go_wp2_with fail
    go_loopw [5] (fun i wr => ∃ s q : Nat, s ≤ 4 ∧ i = .int .i64 s ∧ Hid (∀ j, j < s → (!m.named e j && !k.named e j) = false) ∧ wr = w.drewN q) (fun i _ => 4 - (intOf i).toNat)
    case atStart => exact ⟨0, 0, by omega, rfl, hide fun j hj => by omega, rfl⟩
    case round =>
      obtain ⟨s, q, hs, rfl, HP, rfl⟩ := hrel
      by_cases hlt : s < 4
      · have t4 : decide ((s : Int) < 4) = true := by simp; omega
        have n1 := hm.name e s he hlt
        rw [Nat.zero_add] at n1
        have n2 := hk.name e s he hlt
        rw [show 94 + 40 = 134 from rfl] at n2
        have NX := hide (fun (h : (!m.named e s && !k.named e s) = false) => forall_succ (p := fun j => (!m.named e j && !k.named e j) = false) (unhide HP) h)
        have E1 := hide (show m.named e s = !(m.name e s).toList.isEmpty from rfl)
        have E2 := hide (show k.named e s = !(k.name e s).toList.isEmpty from rfl)
        cases h1 : (m.name e s).toList.isEmpty
        · have W := hide (unhide NX (by simp only [unhide E1, h1]; rfl))
          go_wp2_with fail
          try (go_quiet (fail); go_wp2_with fail)
          go_roundw
          case rel => exact ⟨s + 1, _, by omega, by go_num, W, by first | rfl | exact drewNs⟩
          case measure => simp [intOf]; omega
        · cases h2 : (k.name e s).toList.isEmpty
          · have W := hide (unhide NX (by simp only [unhide E1, unhide E2, h1, h2]; rfl))
            go_wp2_with fail
            try (go_quiet (fail); go_wp2_with fail)
            go_roundw
            case rel => exact ⟨s + 1, _, by omega, by go_num, W, by first | rfl | exact drewNs⟩
            case measure => simp [intOf]; omega
          · have HE := hide (Img.firstI_at (p := fun s => !m.named e s && !k.named e s) (by simp only [unhide E1, unhide E2, h1, h2]; rfl) (unhide HP) hlt)
            go_wp2_with fail
            try (go_quiet (fail); go_wp2_with fail)
            go_ret
            exact ⟨by rw [unhide HE]; rfl, by first | exact ⟨_, rfl⟩ | exact ⟨_, drewNs⟩⟩
      · have t4 : decide ((s : Int) < 4) = false := by simp; omega
        have HE := hide (Img.firstI_none (p := fun s => !m.named e s && !k.named e s) (n := 4) (fun j hj => unhide HP j (by omega)))
        go_wp2_with fail
        go_ret
        exact ⟨by rw [unhide HE]; rfl, _, rfl⟩
  · have E : Img.freeSlot m k d = -1 := by unfold Img.freeSlot; rw [if_neg hd]
    rw [E]
    clear E
    by_cases h0 : d < 0
    · have t1 : decide (d < 0) = true := by simpa using h0
      clear h0 hd
      go_enter Try.func24, Try.ntmps24
      go_wp2_with fail
      go_ret
      exact ⟨rfl, 0, rfl⟩
    · have t1 : decide (d < 0) = false := by simpa using h0
      have t2 : decide (3 ≤ d) = true := by simp; omega
      have t3 : decide (d ≥ 3) = true := by simp; omega
      clear h0 hd
      go_enter Try.func24, Try.ntmps24
      go_wp2_with fail
      go_ret
      exact ⟨rfl, 0, rfl⟩
theorem Bx.args3 (w : World) (a b : Array Value) : Bx w ((w.alloc (.cells a 34)).alloc (.cells b 34)) [(w.heap.size + 1, b, 34), (w.heap.size, a, 34)] := by
  have h := ((Bx.start w).box a 34).box b 34
  have e : (w.alloc (.cells a 34)).heap.size = w.heap.size + 1 := by simp
  rw [e] at h
  exact h
theorem row_all {cs : Array Value} (h : cs.size = 94) : cs.extract 0 (0 + 94) = cs := by rw [Nat.zero_add, ← h]; simp
theorem wp_load_part {P : Program} {o : Oper} {a : Act} {w : World} {K : Act → World → Prop} {Q : Exit → Act → World → Prop} (ty : TypeId) (x : Operand) (ho : o.op = .load ty x) (g off n : Nat) (hx : a.eval x = .pointer (some ⟨g, off, none⟩)) (t : TypeId) (cs vs : Array Value) (d : TypeDesc)
    (hg : w.heap[g]? = some (.cells cs t (0, 0))) (hu : P.underlying ty = some d) (hd : (match d with | .struct _ | .array _ _ => true | _ => false) = true) (hi : (P.info? ty).map (·.size) = some n) (hn : off + n ≤ cs.size) (hv : cs.extract off (off + n) = vs)
    (h : K (a.put o.dst (.agg vs)) w) : o.wp P a w K Q := by
  subst hv
  unfold Oper.wp execOp
  simp only [ho, hx, Instr.loadAt, Instr.sureAddr, Sem.run_bind, Sem.run_pure, Result.andThen_ok, run_loadVar_part w g off n t ty cs d hg hu hd hi hn]
  exact h
theorem run_exec_index {o : Oper} {ρ : Operand → Value} (x y : Operand) (ho : o.op = .indexAddr 46 x y) (g o0 n c j : Nat) (hx : ρ x = .slice (some ⟨g, o0, none⟩) n c) (hy : ρ y = .int .i64 (j : Int)) (hj : j < n) (w : World) : (execOp ρ o).run Try.prog w = .ok (.value (.pointer (some ⟨g, o0 + j, none⟩))) w := by
  have jz : (j : Int) < (n : Int) := by omega
  unfold execOp
  rw [ho]
  go_simp
theorem run_exec_load_int {o : Oper} {ρ : Operand → Value} (x : Operand) (ho : o.op = .load 3 x) (g o0 : Nat) (hx : ρ x = .pointer (some ⟨g, o0, none⟩)) (v : Int) (w : World) (h : w.cell? ⟨g, o0, none⟩ = some (.int .i64 v)) : (execOp ρ o).run Try.prog w = .ok (.value (.int .i64 v)) w := by
  unfold execOp
  rw [ho]
  go_simp
theorem run_exec_neq_bool {o : Oper} {ρ : Operand → Value} (x y : Operand) (ho : o.op = .binOp .neq 4 x y 4) (v : Bool) (hx : ρ x = .bool v) (hy : ρ y = .bool v) (w : World) : (execOp ρ o).run Try.prog w = .ok (.value (.bool false)) w := by
  unfold execOp
  rw [ho]
  go_simp
theorem run_exec_neq_int {o : Oper} {ρ : Operand → Value} (x y : Operand) (ho : o.op = .binOp .neq 3 x y 3) (v : Int) (hx : ρ x = .int .i64 v) (hy : ρ y = .int .i64 v) (w : World) : (execOp ρ o).run Try.prog w = .ok (.value (.bool false)) w := by
  unfold execOp
  rw [ho]
  go_simp
theorem run_exec_eql_int {o : Oper} {ρ : Operand → Value} (x y : Operand) (ho : o.op = .binOp .eql 3 x y 3) (v : Int) (hx : ρ x = .int .i64 v) (hy : ρ y = .int .i64 v) (w : World) : (execOp ρ o).run Try.prog w = .ok (.value (.bool true)) w := by
  unfold execOp
  rw [ho]
  go_simp
def bedTail : Array Value := #[.int .i64 0, .int .i64 0, .int .i64 0, .int .i64 0, .int .i64 0]
theorem fill_bed {z cs ds tl : Array Value} {pl : Nat → Option (Nat × Nat)} (p0 : pl 0 = some (0, 94)) (p1 : pl 1 = some (94, 94)) (hz : z.size = 188 + tl.size) (ht : ∀ i, 188 ≤ i → z[i]? = tl[i - 188]?) (h1 : cs.size = 94) (h2 : ds.size = 94) : Instr.fill pl z [(0, .agg cs), (1, .agg ds)] = some (cs ++ (ds ++ tl)) := by
  have s1 := foldSet_size cs 0 z (by omega)
  have s2 := foldSet_size ds 94 (cs.zipIdx.foldl (fun cs (p : Value × Nat) => cs.setIfInBounds (0 + p.2) p.1) z) (by omega)
  rw [fill_cons (i := 0) (vs := cs) (off := 0) (size := 94) p0 rfl h1 (by omega), fill_cons (i := 1) (vs := ds) (off := 94) (size := 94) p1 rfl h2 (by omega)]
  show some _ = some _
  congr 1
  refine Array.ext_getElem? fun i => ?_
  rw [foldSet_get ds 94 _ (by rw [s1]; omega), foldSet_get cs 0 z (by omega), Array.getElem?_append, Array.getElem?_append]
  by_cases hi : i < 94
  · rw [if_neg (by omega), if_pos (by omega), if_pos (by omega)]; simp
  · by_cases hj : i < 188
    · rw [if_pos (by omega), if_neg (by omega), if_pos (by omega), h1]
    · rw [if_neg (by omega), if_neg (by omega), if_neg (by omega), if_neg (by omega), ht i (by omega), h1, h2, show i - 188 = i - 94 - 94 by omega]
theorem bed_built (parts : List (Nat × Value)) : Try.prog.built 54 parts = Instr.fill (fun i => #[(0, 94), (94, 94), (188, 1), (189, 1), (190, 1), (191, 1), (192, 1)][i]?) (zeroCells ++ (zeroCells ++ bedTail)) parts := by kernel_rfl
theorem built_bed {cs ds : Array Value} (h1 : cs.size = 94) (h2 : ds.size = 94) : Try.prog.built 54 [(0, .agg cs), (1, .agg ds)] = some (cs ++ (ds ++ bedTail)) := by
  rw [bed_built]
  have zs : zeroCells.size = 94 := size_newTo 0
  refine fill_bed rfl rfl (by simp [zs]; omega) (fun i hi => ?_) h1 h2
  rw [Array.getElem?_append, if_neg (by omega), Array.getElem?_append, if_neg (by omega), zs, show i - 94 - 94 = i - 188 by omega]
theorem fault_code {m : Img} {c : Int} (h : c = 0 ↔ m.check = 0) (hk : m.check = 0) : c = 0 := h.2 hk
/-- a slice of numbers that came in -/
structure Ints (w : World) (a : Option Addr) (n : Nat) (x : Nat → Int) : Prop where
  cells : n = 0 ∨ ∃ g o, a = some ⟨g, o, none⟩ ∧ g < w.heap.size ∧ ∀ i, i < n → w.cell? ⟨g, o + i, none⟩ = some (.int .i64 (x i))
  len : n ≤ maxLen
theorem all_any {p : Nat → Bool} {n : Nat} : (!(List.range n).all p) = Img.anyB (fun u => !p u) n := by
  induction n with
  | zero => rfl
  | succ n ih =>
    rw [List.range_succ, List.all_append]
    simp only [Img.anyB, ← ih]
    simp
theorem Bx.bedHas {w wr : World} {gb : Nat} {cs es tl : Array Value} {l : List (Nat × Array Value × TypeId)} {D0 : Img} (h : Bx w wr ((gb, cs ++ (es ++ tl), 54) :: l)) (z1 : cs.size = 94) (hi : IsImg es D0) : HasAt wr gb 94 D0 :=
  hasAt_of (h.row (gb, cs ++ (es ++ tl), 54) (by simp)) (by simp [hi.size]; omega) (app3_snd z1 hi.size) hi
theorem run_exec_index_dir {o : Oper} {ρ : Operand → Value} (x y : Operand) (ho : o.op = .indexAddr 29 x y) (g o0 j : Nat) (hx : ρ x = .pointer (some ⟨g, o0, none⟩)) (hy : ρ y = .int .i64 (j : Int)) (hj : j < 3) (w : World) : (execOp ρ o).run Try.prog w = .ok (.value (.pointer (some ⟨g, o0 + j * 12, none⟩))) w := by
  have jz : (j : Int) < 3 := by omega
  unfold execOp
  rw [ho]
  go_simp
section
variable {cs es tl : Array Value} {d : Nat}
theorem cut_one (z1 : cs.size = 94) (hd : d < 3) : cs.extract (40 + d * 12) (40 + d * 12 + 12) = (cs.extract 40 (40 + 36)).extract (d * 12) (d * 12 + 12) := by
  have := cut_fst (ds := #[]) z1 hd
  rwa [Array.append_empty] at this
theorem cut_bed (z1 : cs.size = 94) (z2 : es.size = 94) (hd : d < 3) : (cs ++ (es ++ tl)).extract (134 + d * 12) (134 + d * 12 + 12) = (es.extract 40 (40 + 36)).extract (d * 12) (d * 12 + 12) := by
  refine Array.ext_getElem? fun i => ?_
  rw [Array.getElem?_extract, Array.getElem?_extract, Array.getElem?_extract, Array.getElem?_append]
  by_cases hi : i < 12
  · rw [if_pos (by simp; omega), if_neg (by omega), Array.getElem?_append, if_pos (by omega), if_pos (by simp; omega), if_pos (by omega)]; congr 1; omega
  · rw [if_neg (by omega), if_neg (by omega)]
end
set_option maxRecDepth 100000 in
set_option maxHeartbeats 16000000 in
theorem cacheDoes_any (ds cs : Array Value) (hl : Kinds ds) (hk : Kinds cs) (w : World) (a : Option Addr) (n c : Nat) (x : Nat → Int) (hx : Ints w a n x) (d : Int) :
    Calls Try.prog 5 #[.agg ds, .agg cs, .slice a n c, .int .i64 d] w fun e w' => e = .returned (.bool true) ∧ Below w.heap.size w w' := by
  have hi := hk.isImg
  have hj := hl.isImg
  have z1 := hi.size
  have z2 := hj.size
  have HX := hide hx
  have hln := hx.len
  unfold maxLen at hln
  clear hx
  have B0 := hide (Bx.args3 w ds cs)
  go_enter Try.func5, Try.ntmps5
  go_wp2_with fail
  generalize (w.alloc (.cells ds 34)).alloc (.cells cs 34) = X0 at B0 ⊢
  generalize w.heap.size + 1 = gn at B0 ⊢
  refine (cacheBegun_any _).mono ?_
  rintro e w1 ⟨rfl, hb1⟩
  have B1 := hide ((unhide B0).call hb1)
  clear B0 hb1
  have r1 := hide ((unhide B1).row (gn, cs, 34) (by simp))
  go_wp2_with (have hx := unhide r1; refine wpList_load_row rfl 34 _ rfl gn rfl 34 cs (0, 0) _ hx img_under rfl (img_info hi.size) ?_; clear hx r1)
  refine (great_any cs _ hi _).mono ?_
  rintro e w2 ⟨⟨v, rfl⟩, hb2⟩
  have B2 := hide ((unhide B1).call hb2)
  clear B1 hb2
  cases v
  case true =>
    go_wp2_with fail
    go_ret
    exact ⟨rfl, (unhide B2).below⟩
  have r2 := hide ((unhide B2).row (w.heap.size, ds, 34) (by simp))
  go_wp2_with (have hx := unhide r2; refine wpList_load_row_g rfl 34 _ rfl w.heap.size rfl 34 ds (0, 0) _ hx img_under rfl (img_info hj.size) ?_; clear hx r2)
  refine (great_any ds _ hj _).mono ?_
  rintro e w3 ⟨⟨v, rfl⟩, hb3⟩
  have B3 := hide ((unhide B2).call hb3)
  clear B2 hb3
  cases v
  case true =>
    go_wp2_with fail
    go_ret
    exact ⟨rfl, (unhide B3).below⟩
  by_cases h200 : 200 < n
  · have t200 : decide (200 < (n : Int)) = true := by simp; omega
    clear h200
    go_wp2_with fail
    go_ret
    exact ⟨rfl, (unhide B3).below⟩
  have t200 : decide (200 < (n : Int)) = false := by simp; omega
  have r3 := hide ((unhide B3).row (w.heap.size, ds, 34) (by simp))
  go_wp2_with (have hx := unhide r3; refine wpList_load_row rfl 34 _ rfl w.heap.size rfl 34 ds (0, 0) _ hx img_under rfl (img_info hj.size) ?_; clear hx r3)
  refine (of_any ds _ hj _).mono ?_
  rintro e w4 ⟨ho, hb4⟩
  rcases ho with ⟨hck, gc, rfl, hgc, hrc⟩ | ⟨hck, rfl⟩
  case inr =>
    have B4 := hide ((unhide B3).call hb4)
    clear B3 hb4
    go_wp2_with fail
    refine (fault_any w.heap.size _ _ ((unhide B4).has (by simp) hj)).mono ?_
    rintro e w5 ⟨⟨c5, rfl, hc⟩, hb5⟩
    have B5 := hide ((unhide B4).call hb5)
    clear B4 hb5
    have c0 : (c5 != 0) = true := by
      have : c5 ≠ 0 := fun z => hck (hc.1 z)
      simpa using this
    clear hc
    go_wp2_with fail
    refine (fault_any w.heap.size _ _ ((unhide B5).has (by simp) hj)).mono ?_
    rintro e w6 ⟨⟨c6, rfl, hc⟩, hb6⟩
    have B6 := hide ((unhide B5).call hb6)
    clear B5 hb6
    have c1 : (c6 != 0) = true := by
      have : c6 ≠ 0 := fun z => hck (hc.1 z)
      simpa using this
    clear hc hck
    go_wp2_with fail
    go_ret
    exact ⟨rfl, (unhide B6).below⟩
  have B4 := hide ((unhide B3).add hb4 hgc hrc)
  clear B3 hb4 hgc hrc
  go_wp2_with fail
  refine (fault_any w.heap.size _ _ ((unhide B4).has (by simp) hj)).mono ?_
  rintro e w5 ⟨⟨c5, rfl, hc⟩, hb5⟩
  have B5 := hide ((unhide B4).call hb5)
  clear B4 hb5
  obtain rfl : c5 = 0 := hc.2 hck
  clear hc hck
  go_wp2_with fail
  go_cut [55] (fun s wx => s = .bool false ∧ Hid (Bx w wx ((gc, ds ++ ds, 51) :: (gn, cs, 34) :: (w.heap.size, ds, 34) :: [])))
  case first =>
    have qd := neqImg hj
    have hg1 := (unhide B5).hi (p := (gc, ds ++ ds, 51)) (by simp)
    have hg2 := (unhide B5).hi (p := (w.heap.size, ds, 34)) (by simp)
    refine wp_region_held_drew (S := fun W => W.heap[gc]? = some (.cells (ds ++ ds) 51) ∧ W.heap[w.heap.size]? = some (.cells ds 34)) (by kernel_rfl) ⟨(unhide B5).row (gc, ds ++ ds, 51) (by simp), (unhide B5).row (w.heap.size, ds, 34) (by simp)⟩ (fun hS => ?_)
    refine wpAnyH_take (i := 0) (oi := { dst := some 44, op := Op.move (Operand.tmp 9), type := 47, pos := "law04.go:39", after := #[], guard := none }) (v := .pointer (some ⟨gc, 0, none⟩)) rfl (by kernel_rfl) (by kernel_rfl) (by kernel_rfl) (fun _ _ _ h => h) (Or.inl ⟨by kernel_rfl, fun W h => (by kernel_rfl)⟩) hS ?_
    refine wpAnyH_take (i := 2) (oi := { dst := some 46, op := Op.load 34 (Operand.tmp 4), type := 34, pos := "law04.go:39", after := #[], guard := none }) (v := .agg ds) rfl (by kernel_rfl) (by kernel_rfl) (by kernel_rfl) (fun _ _ _ h => h) (Or.inl ⟨by kernel_rfl, fun W h => run_exec_load_part 34 (.tmp 4) (by kernel_rfl) w.heap.size 0 94 (by kernel_rfl) W 34 ds ds _ h.2 img_under rfl zero_img.2 (by omega) (row_all z2)⟩) hS ?_
    refine wpAnyH_ready (rs := [1]) (by kernel_rfl) (by simp) ?_
    refine AllReadyH.cons (o := { dst := some 45, op := Op.call { callee := Callee.value (Operand.func 18), args := #[Operand.tmp 44], argTypes := #[47] }, type := 34, pos := "law04.go:39", after := #[{ on := 0, ground := Ground.data }], guard := none }) rfl (fun K hK => ?_) AllReadyH.nil
    rw [if_pos (by kernel_rfl)]
    go_simp
    refine (disk_any gc ds ds (imgOf ds) (imgOf ds) hj hj _ hS.1).mono ?_
    rintro e w6 ⟨rfl, hb6⟩
    go_wp2_with fail
    refine hK.out _ _ (⟨by rw [hb6.block _ hg1]; exact hS.1, by rw [hb6.block _ hg2]; exact hS.2⟩) (fun hS1 => ?_)
    clear hK K
    refine wpAnyH_take (i := 3) (oi := { dst := some 47, op := Op.binOp BinOp.neq 34 (Operand.tmp 45) (Operand.tmp 46) 34, type := 4, pos := "law04.go:39", after := #[{ on := 1, ground := Ground.data }, { on := 2, ground := Ground.data }], guard := none }) (v := .bool false) rfl (by kernel_rfl) (by kernel_rfl) (by kernel_rfl) (fun _ _ _ h => h) (Or.inl ⟨by kernel_rfl, fun W h => run_exec_neql 34 34 (.tmp 45) (.tmp 46) (by kernel_rfl) ds ds (by kernel_rfl) (by kernel_rfl) _ Try.eqGuardType34 qd W⟩) hS1 ?_
    refine wpAnyH_take (i := 4) (oi := { dst := some 48, op := Op.move (Operand.tmp 47), type := 4, pos := "law04.go:39", after := #[{ on := 3, ground := Ground.data }, { on := 1, ground := Ground.chain }], guard := none }) (v := .bool false) rfl (by kernel_rfl) (by kernel_rfl) (by kernel_rfl) (fun _ _ _ h => h) (Or.inl ⟨by kernel_rfl, fun W h => (by kernel_rfl)⟩) hS1 ?_
    refine wpAnyH_take (i := 5) (oi := { dst := some 49, op := Op.move (Operand.tmp 9), type := 47, pos := "law04.go:39", after := #[{ on := 4, ground := Ground.guard }], guard := some (4, false) }) (v := .pointer (some ⟨gc, 0, none⟩)) rfl (by kernel_rfl) (by kernel_rfl) (by kernel_rfl) (fun _ _ _ h => h) (Or.inl ⟨by kernel_rfl, fun W h => (by kernel_rfl)⟩) hS1 ?_
    refine wpAnyH_take (i := 6) (oi := { dst := some 50, op := Op.nilCheck (Operand.tmp 49), type := 0, pos := "law04.go:39", after := #[{ on := 5, ground := Ground.data }, { on := 4, ground := Ground.guard }], guard := some (4, false) }) (v := .pointer (some ⟨gc, 0, none⟩)) rfl (by kernel_rfl) (by kernel_rfl) (by kernel_rfl) (fun _ _ _ h => h) (Or.inl ⟨by kernel_rfl, fun W h => (by kernel_rfl)⟩) hS1 ?_
    refine wpAnyH_take (i := 7) (oi := { dst := some 51, op := Op.fieldAddr 51 (Operand.tmp 50) 0, type := 0, pos := "law04.go:39", after := #[{ on := 6, ground := Ground.data }, { on := 4, ground := Ground.guard }], guard := some (4, false) }) (v := .pointer (some ⟨gc, 0, none⟩)) rfl (by kernel_rfl) (by kernel_rfl) (by kernel_rfl) (fun _ _ _ h => h) (Or.inl ⟨by kernel_rfl, fun W h => (by kernel_rfl)⟩) hS1 ?_
    refine wpAnyH_take (i := 8) (oi := { dst := some 52, op := Op.load 34 (Operand.tmp 51), type := 34, pos := "law04.go:39", after := #[{ on := 7, ground := Ground.data }, { on := 4, ground := Ground.guard }], guard := some (4, false) }) (v := .agg ds) rfl (by kernel_rfl) (by kernel_rfl) (by kernel_rfl) (fun _ _ _ h => h) (Or.inl ⟨by kernel_rfl, fun W h => run_exec_load_part 34 (.tmp 51) (by kernel_rfl) gc 0 94 (by kernel_rfl) W 51 (ds ++ ds) ds _ h.1 img_under rfl zero_img.2 (by simp; omega) (app_fst z2)⟩) hS1 ?_
    refine wpAnyH_take (i := 9) (oi := { dst := some 53, op := Op.load 34 (Operand.tmp 4), type := 34, pos := "law04.go:39", after := #[{ on := 4, ground := Ground.guard }], guard := some (4, false) }) (v := .agg ds) rfl (by kernel_rfl) (by kernel_rfl) (by kernel_rfl) (fun _ _ _ h => h) (Or.inl ⟨by kernel_rfl, fun W h => run_exec_load_part 34 (.tmp 4) (by kernel_rfl) w.heap.size 0 94 (by kernel_rfl) W 34 ds ds _ h.2 img_under rfl zero_img.2 (by omega) (row_all z2)⟩) hS1 ?_
    refine wpAnyH_take (i := 10) (oi := { dst := some 54, op := Op.binOp BinOp.neq 34 (Operand.tmp 52) (Operand.tmp 53) 34, type := 4, pos := "law04.go:39", after := #[{ on := 8, ground := Ground.data }, { on := 9, ground := Ground.data }, { on := 4, ground := Ground.guard }], guard := some (4, false) }) (v := .bool false) rfl (by kernel_rfl) (by kernel_rfl) (by kernel_rfl) (fun _ _ _ h => h) (Or.inl ⟨by kernel_rfl, fun W h => run_exec_neql 34 34 (.tmp 52) (.tmp 53) (by kernel_rfl) ds ds (by kernel_rfl) (by kernel_rfl) _ Try.eqGuardType34 qd W⟩) hS1 ?_
    refine wpAnyH_take (i := 11) (oi := { dst := some 55, op := Op.pick (Operand.tmp 48) (Operand.const (Value.bool true)) (Operand.tmp 54), type := 4, pos := "law04.go:39", after := #[{ on := 4, ground := Ground.data }, { on := 10, ground := Ground.data }], guard := none }) (v := .bool false) rfl (by kernel_rfl) (by kernel_rfl) (by kernel_rfl) (fun _ _ _ h => h) (Or.inl ⟨by kernel_rfl, fun W h => (by kernel_rfl)⟩) hS1 ?_
    refine wpAnyH_done (by kernel_rfl) ?_ _
    simp only [Act.put, List.setIfInBounds_toArray, List.set_cons_zero, List.set_cons_succ]
    go_wp2_with fail
    go_meet
    exact ⟨rfl, hide ((unhide B5).call ((Below.refl _ _).drew.trans (hb6.mono (by simp))))⟩
  case rest =>
    obtain ⟨rfl, B6⟩ := hcut
    clear B5
    have hgl := (unhide B6).hi (p := (gc, ds ++ ds, 51)) (by simp)
    have r4 := hide ((unhide B6).row (gn, cs, 34) (by simp))
    have r5 := hide ((unhide B6).row (gc, ds ++ ds, 51) (by simp))
    have B7 := hide ((unhide B6).mut0 (Mut.of (Below.refl _ wc) hgl (c' := cs ++ ds) rfl ((unhide B6).row (gc, ds ++ ds, 51) (by simp))))
    have hsp : splice (ds ++ ds) 0 cs = cs ++ ds := splice_fst z2 z1
    have hle : 0 + cs.size ≤ (ds ++ ds).size := by simp; omega
    clear B6
    go_upto_region 11 with (first | (have hx := unhide r4; refine wpList_load_row rfl 34 _ rfl gn rfl 34 cs (0, 0) _ hx img_under rfl (img_info hi.size) ?_; clear hx r4) | (have hx := unhide r5; refine wpList_store_part rfl 34 _ _ rfl gc 0 cs rfl rfl 51 (ds ++ ds) hx (img_info hi.size) hle hi.all ?_; clear hx r5; rw [hsp]; generalize wc.setRow gc (cs ++ ds) = X7 at B7 ⊢))
    have r6 := hide ((unhide B7).row (gn, cs, 34) (by simp))
    have r7 := hide ((unhide B7).row (w.heap.size, ds, 34) (by simp))
    have B8 := hide ((unhide B7).box (cs ++ (ds ++ bedTail)) 54)
    clear B7
    go_wp2_with (first | (refine wpList_build_two rfl 54 _ _ rfl cs ds (cs ++ (ds ++ bedTail)) rfl rfl (built_bed z1 z2) ?_) | (have hx := unhide r6; refine wpList_load_row rfl 34 _ rfl gn rfl 34 cs (0, 0) _ hx img_under rfl (img_info hi.size) ?_; clear hx r6) | (have hx := unhide r7; refine wpList_load_row rfl 34 _ rfl w.heap.size rfl 34 ds (0, 0) _ hx img_under rfl (img_info hj.size) ?_; clear hx r7))
    generalize X7.alloc (.cells (cs ++ (ds ++ bedTail)) 54) = X8 at B8 ⊢
    generalize X7.heap.size = gb at B8 ⊢
    generalize bedTail = tl at B8 ⊢
    go_loopw [11] (fun i wr => ∃ (j : Nat) (es : Array Value) (D0 : Img), j ≤ n ∧ i = .int .i64 j ∧ Hid (IsImg es D0) ∧ Hid (Bx w wr ((gb, cs ++ (es ++ tl), 54) :: (gc, cs ++ es, 51) :: (gn, cs, 34) :: (w.heap.size, ds, 34) :: []))) (fun i _ => n - (intOf i).toNat)
    case atStart => exact ⟨0, ds, imgOf ds, Nat.zero_le _, rfl, hide hj, B8⟩
    case round =>
      clear B8
      obtain ⟨j, es, D0, hjn, rfl, HI, B8⟩ := hrel
      by_cases hlt : j < n
      ·   have tn : decide ((j : Int) < (n : Int)) = true := by simp; omega
          have jz : (j : Int) < (n : Int) := by omega
          obtain ⟨g0, o0, rfl, hg0, hcell⟩ : ∃ g o, a = some ⟨g, o, none⟩ ∧ g < w.heap.size ∧ ∀ i, i < n → w.cell? ⟨g, o + i, none⟩ = some (.int .i64 (x i)) := by
            rcases (unhide HX).cells with z | z
            · omega
            · exact z
          have hc0 := hcell j hlt
          obtain ⟨xj, hxj⟩ : ∃ xj, xj = x j := ⟨_, rfl⟩
          rw [← hxj] at hc0
          have HC := hide hc0
          clear hcell hxj hc0 HX
          have ze := (unhide HI).size
          go_wp2_with fail
          go_cut [91] (fun s wx => ∃ fs, s = .bool false ∧ Hid (IsImg fs (Img.write (imgOf cs) D0 xj)) ∧ Hid (Bx w wx ((gb, cs ++ (fs ++ tl), 54) :: (gc, cs ++ fs, 51) :: (gn, cs, 34) :: (w.heap.size, ds, 34) :: [])))
          case first =>
            have Bd := hide ((unhide B8).call (Below.refl _ _).drew)
            refine wp_region_held_drew (S := fun W => W.cell? ⟨g0, o0 + j, none⟩ = some (.int .i64 xj)) (by kernel_rfl) (((unhide Bd).below.cell (p := ⟨g0, o0 + j, none⟩) hg0).trans (unhide HC)) (fun hS => ?_)
            refine wpAnyH_take (i := 0) (oi := { dst := some 70, op := Op.move (Operand.tmp 9), type := 47, pos := "law04.go:45", after := #[], guard := none }) (v := .pointer (some ⟨gc, 0, none⟩)) rfl (by kernel_rfl) (by kernel_rfl) (by kernel_rfl) (fun _ _ _ h => h) (Or.inl ⟨by kernel_rfl, fun W h => (by kernel_rfl)⟩) hS ?_
            simp only [Act.put, List.setIfInBounds_toArray, List.set_cons_zero, List.set_cons_succ]
            refine wpAnyH_take (i := 1) (oi := { dst := some 71, op := Op.move (Operand.tmp 2), type := 46, pos := "law04.go:45", after := #[], guard := none }) (v := .slice (some ⟨g0, o0, none⟩) n c) rfl (by kernel_rfl) (by kernel_rfl) (by kernel_rfl) (fun _ _ _ h => h) (Or.inl ⟨by kernel_rfl, fun W h => (by kernel_rfl)⟩) hS ?_
            simp only [Act.put, List.setIfInBounds_toArray, List.set_cons_zero, List.set_cons_succ]
            refine wpAnyH_take (i := 2) (oi := { dst := some 72, op := Op.move (Operand.tmp 11), type := 3, pos := "law04.go:45", after := #[], guard := none }) (v := .int .i64 (j : Int)) rfl (by kernel_rfl) (by kernel_rfl) (by kernel_rfl) (fun _ _ _ h => h) (Or.inl ⟨by kernel_rfl, fun W h => (by kernel_rfl)⟩) hS ?_
            simp only [Act.put, List.setIfInBounds_toArray, List.set_cons_zero, List.set_cons_succ]
            refine wpAnyH_take (i := 3) (oi := { dst := some 73, op := Op.indexAddr 46 (Operand.tmp 71) (Operand.tmp 72), type := 0, pos := "law04.go:45", after := #[{ on := 1, ground := Ground.data }, { on := 2, ground := Ground.data }], guard := none }) (v := .pointer (some ⟨g0, o0 + j, none⟩)) rfl (by kernel_rfl) (by kernel_rfl) (by kernel_rfl) (fun _ _ _ h => h) (Or.inl ⟨by kernel_rfl, fun W h => run_exec_index (.tmp 71) (.tmp 72) (by kernel_rfl) g0 o0 n c j (by kernel_rfl) (by kernel_rfl) hlt W⟩) hS ?_
            simp only [Act.put, List.setIfInBounds_toArray, List.set_cons_zero, List.set_cons_succ]
            refine wpAnyH_take (i := 4) (oi := { dst := some 74, op := Op.load 3 (Operand.tmp 73), type := 3, pos := "law04.go:45", after := #[{ on := 3, ground := Ground.data }], guard := none }) (v := .int .i64 xj) rfl (by kernel_rfl) (by kernel_rfl) (by kernel_rfl) (fun _ _ _ h => h) (Or.inl ⟨by kernel_rfl, fun W h => run_exec_load_int (.tmp 73) (by kernel_rfl) g0 (o0 + j) (by kernel_rfl) xj W h⟩) hS ?_
            simp only [Act.put, List.setIfInBounds_toArray, List.set_cons_zero, List.set_cons_succ]
            refine wpAnyH_take (i := 6) (oi := { dst := some 76, op := Op.move (Operand.tmp 10), type := 52, pos := "law04.go:45", after := #[], guard := none }) (v := .pointer (some ⟨gb, 0, none⟩)) rfl (by kernel_rfl) (by kernel_rfl) (by kernel_rfl) (fun _ _ _ h => h) (Or.inl ⟨by kernel_rfl, fun W h => (by kernel_rfl)⟩) hS ?_
            simp only [Act.put, List.setIfInBounds_toArray, List.set_cons_zero, List.set_cons_succ]
            refine wpAnyH_take (i := 7) (oi := { dst := some 77, op := Op.move (Operand.tmp 2), type := 46, pos := "law04.go:45", after := #[], guard := none }) (v := .slice (some ⟨g0, o0, none⟩) n c) rfl (by kernel_rfl) (by kernel_rfl) (by kernel_rfl) (fun _ _ _ h => h) (Or.inl ⟨by kernel_rfl, fun W h => (by kernel_rfl)⟩) hS ?_
            simp only [Act.put, List.setIfInBounds_toArray, List.set_cons_zero, List.set_cons_succ]
            refine wpAnyH_take (i := 8) (oi := { dst := some 78, op := Op.move (Operand.tmp 11), type := 3, pos := "law04.go:45", after := #[], guard := none }) (v := .int .i64 (j : Int)) rfl (by kernel_rfl) (by kernel_rfl) (by kernel_rfl) (fun _ _ _ h => h) (Or.inl ⟨by kernel_rfl, fun W h => (by kernel_rfl)⟩) hS ?_
            simp only [Act.put, List.setIfInBounds_toArray, List.set_cons_zero, List.set_cons_succ]
            refine wpAnyH_take (i := 9) (oi := { dst := some 79, op := Op.indexAddr 46 (Operand.tmp 77) (Operand.tmp 78), type := 0, pos := "law04.go:45", after := #[{ on := 7, ground := Ground.data }, { on := 8, ground := Ground.data }], guard := none }) (v := .pointer (some ⟨g0, o0 + j, none⟩)) rfl (by kernel_rfl) (by kernel_rfl) (by kernel_rfl) (fun _ _ _ h => h) (Or.inl ⟨by kernel_rfl, fun W h => run_exec_index (.tmp 77) (.tmp 78) (by kernel_rfl) g0 o0 n c j (by kernel_rfl) (by kernel_rfl) hlt W⟩) hS ?_
            simp only [Act.put, List.setIfInBounds_toArray, List.set_cons_zero, List.set_cons_succ]
            refine wpAnyH_take (i := 10) (oi := { dst := some 80, op := Op.load 3 (Operand.tmp 79), type := 3, pos := "law04.go:45", after := #[{ on := 9, ground := Ground.data }], guard := none }) (v := .int .i64 xj) rfl (by kernel_rfl) (by kernel_rfl) (by kernel_rfl) (fun _ _ _ h => h) (Or.inl ⟨by kernel_rfl, fun W h => run_exec_load_int (.tmp 79) (by kernel_rfl) g0 (o0 + j) (by kernel_rfl) xj W h⟩) hS ?_
            simp only [Act.put, List.setIfInBounds_toArray, List.set_cons_zero, List.set_cons_succ]
            refine wpAnyH_ready (rs := [5]) (by kernel_rfl) (by simp) ?_
            refine AllReadyH.cons (o := { dst := some 75, op := Op.call { callee := Callee.value (Operand.func 19), args := #[Operand.tmp 70, Operand.tmp 74], argTypes := #[47, 3] }, type := 4, pos := "law04.go:45", after := #[{ on := 0, ground := Ground.data }, { on := 4, ground := Ground.data }], guard := none }) rfl (fun K hK => ?_) AllReadyH.nil
            rw [if_pos (by kernel_rfl)]
            go_simp
            refine (cWrite_any gc cs es (imgOf cs) D0 hi (unhide HI) xj _ ((unhide Bd).row (gc, cs ++ es, 51) (by simp))).mono ?_
            rintro e w1 ⟨fs, rfl, hfs, hM⟩
            have B9 := hide ((unhide Bd).mut1 hM)
            clear hM
            go_wp2_with fail
            refine hK.out _ _ (((unhide B9).below.cell (p := ⟨g0, o0 + j, none⟩) hg0).trans (unhide HC)) (fun hS1 => ?_)
            clear hK K
            refine wpAnyH_ready (rs := [11]) (by kernel_rfl) (by simp) ?_
            refine AllReadyH.cons (o := { dst := some 81, op := Op.call { callee := Callee.value (Operand.func 20), args := #[Operand.tmp 76, Operand.tmp 80], argTypes := #[52, 3] }, type := 4, pos := "law04.go:45", after := #[{ on := 6, ground := Ground.data }, { on := 10, ground := Ground.data }, { on := 5, ground := Ground.chain }], guard := none }) rfl (fun K hK => ?_) AllReadyH.nil
            rw [if_pos (by kernel_rfl)]
            go_simp
            refine (bWrite_any gb cs es tl (imgOf cs) D0 hi (unhide HI) xj _ ((unhide B9).row (gb, cs ++ (es ++ tl), 54) (by simp))).mono ?_
            rintro e w2 ⟨fs2, rfl, hfs2, hM⟩
            obtain rfl : fs2 = fs := hfs2.agree hfs (Img.Agree.refl _)
            have B10 := hide ((unhide B9).mut0 hM)
            have zf := hfs2.size
            have qf := neqImg hfs2
            clear hM
            go_wp2_with fail
            refine hK.out _ _ (((unhide B10).below.cell (p := ⟨g0, o0 + j, none⟩) hg0).trans (unhide HC)) (fun hS2 => ?_)
            clear hK K
            refine wpAnyH_take (i := 12) (oi := { dst := some 82, op := Op.binOp BinOp.neq 4 (Operand.tmp 75) (Operand.tmp 81) 4, type := 4, pos := "law04.go:45", after := #[{ on := 5, ground := Ground.data }, { on := 11, ground := Ground.data }], guard := none }) (v := .bool false) rfl (by kernel_rfl) (by kernel_rfl) (by kernel_rfl) (fun _ _ _ h => h) (Or.inl ⟨by kernel_rfl, fun W h => run_exec_neq_bool (.tmp 75) (.tmp 81) (by kernel_rfl) (Img.inB xj) (by kernel_rfl) (by kernel_rfl) W⟩) hS2 ?_
            simp only [Act.put, List.setIfInBounds_toArray, List.set_cons_zero, List.set_cons_succ]
            refine wpAnyH_take (i := 13) (oi := { dst := some 83, op := Op.move (Operand.tmp 82), type := 4, pos := "law04.go:45", after := #[{ on := 12, ground := Ground.data }, { on := 11, ground := Ground.chain }], guard := none }) (v := .bool false) rfl (by kernel_rfl) (by kernel_rfl) (by kernel_rfl) (fun _ _ _ h => h) (Or.inl ⟨by kernel_rfl, fun W h => (by kernel_rfl)⟩) hS2 ?_
            simp only [Act.put, List.setIfInBounds_toArray, List.set_cons_zero, List.set_cons_succ]
            refine wpAnyH_take (i := 14) (oi := { dst := some 84, op := Op.move (Operand.tmp 9), type := 47, pos := "law04.go:45", after := #[{ on := 13, ground := Ground.guard }], guard := some (13, false) }) (v := .pointer (some ⟨gc, 0, none⟩)) rfl (by kernel_rfl) (by kernel_rfl) (by kernel_rfl) (fun _ _ _ h => h) (Or.inl ⟨by kernel_rfl, fun W h => (by kernel_rfl)⟩) hS2 ?_
            simp only [Act.put, List.setIfInBounds_toArray, List.set_cons_zero, List.set_cons_succ]
            refine wpAnyH_take (i := 16) (oi := { dst := some 86, op := Op.move (Operand.tmp 10), type := 52, pos := "law04.go:45", after := #[{ on := 13, ground := Ground.guard }], guard := some (13, false) }) (v := .pointer (some ⟨gb, 0, none⟩)) rfl (by kernel_rfl) (by kernel_rfl) (by kernel_rfl) (fun _ _ _ h => h) (Or.inl ⟨by kernel_rfl, fun W h => (by kernel_rfl)⟩) hS2 ?_
            simp only [Act.put, List.setIfInBounds_toArray, List.set_cons_zero, List.set_cons_succ]
            refine wpAnyH_take (i := 17) (oi := { dst := some 87, op := Op.nilCheck (Operand.tmp 86), type := 0, pos := "law04.go:45", after := #[{ on := 16, ground := Ground.data }, { on := 13, ground := Ground.guard }], guard := some (13, false) }) (v := .pointer (some ⟨gb, 0, none⟩)) rfl (by kernel_rfl) (by kernel_rfl) (by kernel_rfl) (fun _ _ _ h => h) (Or.inl ⟨by kernel_rfl, fun W h => (by kernel_rfl)⟩) hS2 ?_
            simp only [Act.put, List.setIfInBounds_toArray, List.set_cons_zero, List.set_cons_succ]
            refine wpAnyH_take (i := 18) (oi := { dst := some 88, op := Op.fieldAddr 54 (Operand.tmp 87) 1, type := 0, pos := "law04.go:45", after := #[{ on := 17, ground := Ground.data }, { on := 13, ground := Ground.guard }], guard := some (13, false) }) (v := .pointer (some ⟨gb, 94, none⟩)) rfl (by kernel_rfl) (by kernel_rfl) (by kernel_rfl) (fun _ _ _ h => h) (Or.inl ⟨by kernel_rfl, fun W h => (by kernel_rfl)⟩) hS2 ?_
            simp only [Act.put, List.setIfInBounds_toArray, List.set_cons_zero, List.set_cons_succ]
            refine wpAnyH_ready (rs := [15, 19]) (by kernel_rfl) (by simp) ?_
            refine AllReadyH.cons (o := { dst := some 85, op := Op.call { callee := Callee.value (Operand.func 18), args := #[Operand.tmp 84], argTypes := #[47] }, type := 34, pos := "law04.go:45", after := #[{ on := 14, ground := Ground.data }, { on := 13, ground := Ground.chain }, { on := 13, ground := Ground.guard }], guard := some (13, false) }) rfl (fun K hK => ?_) (AllReadyH.cons (o := { dst := some 89, op := Op.load 34 (Operand.tmp 88), type := 34, pos := "law04.go:45", after := #[{ on := 18, ground := Ground.data }, { on := 13, ground := Ground.guard }], guard := some (13, false) }) rfl (fun K hK => ?_) AllReadyH.nil)
            · skip
              rw [if_pos (by kernel_rfl)]
              go_simp
              refine (disk_any gc cs fs2 (imgOf cs) _ hi hfs2 _ ((unhide B10).row (gc, cs ++ fs2, 51) (by simp))).mono ?_
              rintro e w3 ⟨rfl, hb3⟩
              have B11 := hide ((unhide B10).call hb3)
              clear hb3
              go_wp2_with fail
              refine hK.out _ _ (((unhide B11).below.cell (p := ⟨g0, o0 + j, none⟩) hg0).trans (unhide HC)) (fun hS3 => ?_)
              clear hK K
              refine wpAnyH_ready (rs := [19]) (by kernel_rfl) (by simp) ?_
              refine AllReadyH.cons (o := { dst := some 89, op := Op.load 34 (Operand.tmp 88), type := 34, pos := "law04.go:45", after := #[{ on := 18, ground := Ground.data }, { on := 13, ground := Ground.guard }], guard := some (13, false) }) rfl (fun K hK => ?_) AllReadyH.nil
              rw [if_pos (by kernel_rfl)]
              refine wp_load_part 34 (.tmp 88) rfl gb 94 94 (by kernel_rfl) 54 (cs ++ (fs2 ++ tl)) fs2 _ ((unhide B11).row (gb, cs ++ (fs2 ++ tl), 54) (by simp)) img_under rfl zero_img.2 (by simp; omega) (app3_snd z1 zf) ?_
              refine hK.out _ _ (((unhide B11).below.cell (p := ⟨g0, o0 + j, none⟩) hg0).trans (unhide HC)) (fun hS4 => ?_)
              clear hK K
              refine wpAnyH_take (i := 20) (oi := { dst := some 90, op := Op.binOp BinOp.neq 34 (Operand.tmp 85) (Operand.tmp 89) 34, type := 4, pos := "law04.go:45", after := #[{ on := 15, ground := Ground.data }, { on := 19, ground := Ground.data }, { on := 13, ground := Ground.guard }], guard := some (13, false) }) (v := .bool false) rfl (by kernel_rfl) (by kernel_rfl) (by kernel_rfl) (fun _ _ _ h => h) (Or.inl ⟨by kernel_rfl, fun W h => run_exec_neql 34 34 (.tmp 85) (.tmp 89) (by kernel_rfl) fs2 fs2 (by kernel_rfl) (by kernel_rfl) _ Try.eqGuardType34 qf W⟩) hS4 ?_
              simp only [Act.put, List.setIfInBounds_toArray, List.set_cons_zero, List.set_cons_succ]
              refine wpAnyH_take (i := 21) (oi := { dst := some 91, op := Op.pick (Operand.tmp 83) (Operand.const (Value.bool true)) (Operand.tmp 90), type := 4, pos := "law04.go:45", after := #[{ on := 13, ground := Ground.data }, { on := 20, ground := Ground.data }], guard := none }) (v := .bool false) rfl (by kernel_rfl) (by kernel_rfl) (by kernel_rfl) (fun _ _ _ h => h) (Or.inl ⟨by kernel_rfl, fun W h => (by kernel_rfl)⟩) hS4 ?_
              simp only [Act.put, List.setIfInBounds_toArray, List.set_cons_zero, List.set_cons_succ]
              refine wpAnyH_done (by kernel_rfl) ?_ _
              go_wp2_with fail
              go_meet
              exact ⟨fs2, rfl, hide hfs2, B11⟩
            · skip
              rw [if_pos (by kernel_rfl)]
              refine wp_load_part 34 (.tmp 88) rfl gb 94 94 (by kernel_rfl) 54 (cs ++ (fs2 ++ tl)) fs2 _ ((unhide B10).row (gb, cs ++ (fs2 ++ tl), 54) (by simp)) img_under rfl zero_img.2 (by simp; omega) (app3_snd z1 zf) ?_
              refine hK.out _ _ (((unhide B10).below.cell (p := ⟨g0, o0 + j, none⟩) hg0).trans (unhide HC)) (fun hS3 => ?_)
              clear hK K
              refine wpAnyH_ready (rs := [15]) (by kernel_rfl) (by simp) ?_
              refine AllReadyH.cons (o := { dst := some 85, op := Op.call { callee := Callee.value (Operand.func 18), args := #[Operand.tmp 84], argTypes := #[47] }, type := 34, pos := "law04.go:45", after := #[{ on := 14, ground := Ground.data }, { on := 13, ground := Ground.chain }, { on := 13, ground := Ground.guard }], guard := some (13, false) }) rfl (fun K hK => ?_) AllReadyH.nil
              rw [if_pos (by kernel_rfl)]
              go_simp
              refine (disk_any gc cs fs2 (imgOf cs) _ hi hfs2 _ ((unhide B10).row (gc, cs ++ fs2, 51) (by simp))).mono ?_
              rintro e w3 ⟨rfl, hb3⟩
              have B11 := hide ((unhide B10).call hb3)
              clear hb3
              go_wp2_with fail
              refine hK.out _ _ (((unhide B11).below.cell (p := ⟨g0, o0 + j, none⟩) hg0).trans (unhide HC)) (fun hS4 => ?_)
              clear hK K
              refine wpAnyH_take (i := 20) (oi := { dst := some 90, op := Op.binOp BinOp.neq 34 (Operand.tmp 85) (Operand.tmp 89) 34, type := 4, pos := "law04.go:45", after := #[{ on := 15, ground := Ground.data }, { on := 19, ground := Ground.data }, { on := 13, ground := Ground.guard }], guard := some (13, false) }) (v := .bool false) rfl (by kernel_rfl) (by kernel_rfl) (by kernel_rfl) (fun _ _ _ h => h) (Or.inl ⟨by kernel_rfl, fun W h => run_exec_neql 34 34 (.tmp 85) (.tmp 89) (by kernel_rfl) fs2 fs2 (by kernel_rfl) (by kernel_rfl) _ Try.eqGuardType34 qf W⟩) hS4 ?_
              simp only [Act.put, List.setIfInBounds_toArray, List.set_cons_zero, List.set_cons_succ]
              refine wpAnyH_take (i := 21) (oi := { dst := some 91, op := Op.pick (Operand.tmp 83) (Operand.const (Value.bool true)) (Operand.tmp 90), type := 4, pos := "law04.go:45", after := #[{ on := 13, ground := Ground.data }, { on := 20, ground := Ground.data }], guard := none }) (v := .bool false) rfl (by kernel_rfl) (by kernel_rfl) (by kernel_rfl) (fun _ _ _ h => h) (Or.inl ⟨by kernel_rfl, fun W h => (by kernel_rfl)⟩) hS4 ?_
              simp only [Act.put, List.setIfInBounds_toArray, List.set_cons_zero, List.set_cons_succ]
              refine wpAnyH_done (by kernel_rfl) ?_ _
              go_wp2_with fail
              go_meet
              exact ⟨fs2, rfl, hide hfs2, B11⟩
          case rest =>
            obtain ⟨fs, rfl, HI2, B9⟩ := hcut
            clear B8 HI
            go_wp2_with fail
            go_roundw
            case rel => first | exact ⟨j + 1, fs, _, by omega, by go_num, HI2, B9⟩ | ((repeat apply Exists.intro); exact ⟨⟨j + 1, fs, _, by omega, by go_num, HI2, B9⟩, rfl⟩)
            case measure => simp [intOf]; omega
      · have tn : decide ((j : Int) < (n : Int)) = false := by simp; omega
        clear HX
        have ze := (unhide HI).size
        go_wp2_with fail
        go_cut [126] (fun s wx => s = .bool false ∧ Hid (Bx w wx ((gb, cs ++ (es ++ tl), 54) :: (gc, cs ++ es, 51) :: (gn, cs, 34) :: (w.heap.size, ds, 34) :: [])))
        case first =>
          have Bd := hide ((unhide B8).call (Below.refl _ _).drew)
          have hgb := (unhide Bd).hi (p := (gb, cs ++ (es ++ tl), 54)) (by simp)
          have hgc := (unhide Bd).hi (p := (gc, cs ++ es, 51)) (by simp)
          have HT := hide (fun (W : World) (h : W.heap[gb]? = some (.cells (cs ++ (es ++ tl)) 54)) => (And.intro (hasAt_of h (by simp; omega) (app3_fst z1) hi) (hasAt_of h (by simp; omega) (app3_snd z1 ze) (unhide HI)) : HasAt W gb 0 (imgOf cs) ∧ HasAt W gb 94 D0))
          have q := eqlImg hi (unhide HI)
          refine wp_region_held_drew (S := fun W => W.heap[gb]? = some (.cells (cs ++ (es ++ tl)) 54) ∧ W.heap[gc]? = some (.cells (cs ++ es) 51)) (by kernel_rfl) ⟨(unhide Bd).row (gb, cs ++ (es ++ tl), 54) (by simp), (unhide Bd).row (gc, cs ++ es, 51) (by simp)⟩ (fun hS => ?_)
          refine wpAnyH_take (i := 0) (oi := { dst := some 92, op := Op.move (Operand.tmp 9), type := 47, pos := "law04.go:49", after := #[], guard := none }) (v := .pointer (some ⟨gc, 0, none⟩)) rfl (by kernel_rfl) (by kernel_rfl) (by kernel_rfl) (fun _ _ _ h => h) (Or.inl ⟨by kernel_rfl, fun W h => (by kernel_rfl)⟩) hS ?_
          simp only [Act.put, List.setIfInBounds_toArray, List.set_cons_zero, List.set_cons_succ]
          refine wpAnyH_take (i := 2) (oi := { dst := some 94, op := Op.move (Operand.tmp 10), type := 52, pos := "law04.go:49", after := #[], guard := none }) (v := .pointer (some ⟨gb, 0, none⟩)) rfl (by kernel_rfl) (by kernel_rfl) (by kernel_rfl) (fun _ _ _ h => h) (Or.inl ⟨by kernel_rfl, fun W h => (by kernel_rfl)⟩) hS ?_
          simp only [Act.put, List.setIfInBounds_toArray, List.set_cons_zero, List.set_cons_succ]
          refine wpAnyH_ready (rs := [1]) (by kernel_rfl) (by simp) ?_
          refine AllReadyH.cons (o := { dst := some 93, op := Op.call { callee := Callee.value (Operand.func 21), args := #[Operand.tmp 92], argTypes := #[47] }, type := 3, pos := "law04.go:49", after := #[{ on := 0, ground := Ground.data }], guard := none }) rfl (fun K hK => ?_) AllReadyH.nil
          rw [if_pos (by kernel_rfl)]
          go_simp
          refine (cInode_any gc cs es (imgOf cs) D0 hi (unhide HI) _ hS.2).mono ?_
          rintro e w1 ⟨rfl, hb1⟩
          have B9 := hide ((unhide Bd).call hb1)
          go_wp2_with fail
          refine hK.out _ _ (⟨(unhide B9).row (gb, cs ++ (es ++ tl), 54) (by simp), (unhide B9).row (gc, cs ++ es, 51) (by simp)⟩) (fun hS1 => ?_)
          clear hK K
          refine wpAnyH_ready (rs := [3]) (by kernel_rfl) (by simp) ?_
          refine AllReadyH.cons (o := { dst := some 95, op := Op.call { callee := Callee.value (Operand.func 22), args := #[Operand.tmp 94], argTypes := #[52] }, type := 3, pos := "law04.go:49", after := #[{ on := 2, ground := Ground.data }, { on := 1, ground := Ground.chain }], guard := none }) rfl (fun K hK => ?_) AllReadyH.nil
          rw [if_pos (by kernel_rfl)]
          go_simp
          refine (bIno_any gb (imgOf cs) D0 _ (unhide HT _ hS1.1).1 (unhide HT _ hS1.1).2).mono ?_
          rintro e w2 ⟨rfl, rfl⟩
          go_wp2_with fail
          refine hK.out _ _ (hS1) (fun hS2 => ?_)
          clear hK K
          refine wpAnyH_take (i := 4) (oi := { dst := some 96, op := Op.binOp BinOp.neq 3 (Operand.tmp 93) (Operand.tmp 95) 3, type := 4, pos := "law04.go:49", after := #[{ on := 1, ground := Ground.data }, { on := 3, ground := Ground.data }], guard := none }) (v := .bool false) rfl (by kernel_rfl) (by kernel_rfl) (by kernel_rfl) (fun _ _ _ h => h) (Or.inl ⟨by kernel_rfl, fun W h => run_exec_neq_int (.tmp 93) (.tmp 95) (by kernel_rfl) ((Img.freeIno (imgOf cs) D0)) (by kernel_rfl) (by kernel_rfl) W⟩) hS2 ?_
          simp only [Act.put, List.setIfInBounds_toArray, List.set_cons_zero, List.set_cons_succ]
          refine wpAnyH_take (i := 5) (oi := { dst := some 97, op := Op.move (Operand.tmp 96), type := 4, pos := "law04.go:49", after := #[{ on := 4, ground := Ground.data }, { on := 3, ground := Ground.chain }], guard := none }) (v := .bool false) rfl (by kernel_rfl) (by kernel_rfl) (by kernel_rfl) (fun _ _ _ h => h) (Or.inl ⟨by kernel_rfl, fun W h => (by kernel_rfl)⟩) hS2 ?_
          simp only [Act.put, List.setIfInBounds_toArray, List.set_cons_zero, List.set_cons_succ]
          refine wpAnyH_take (i := 6) (oi := { dst := some 98, op := Op.move (Operand.tmp 9), type := 47, pos := "law04.go:49", after := #[{ on := 5, ground := Ground.guard }], guard := some (5, false) }) (v := .pointer (some ⟨gc, 0, none⟩)) rfl (by kernel_rfl) (by kernel_rfl) (by kernel_rfl) (fun _ _ _ h => h) (Or.inl ⟨by kernel_rfl, fun W h => (by kernel_rfl)⟩) hS2 ?_
          simp only [Act.put, List.setIfInBounds_toArray, List.set_cons_zero, List.set_cons_succ]
          refine wpAnyH_take (i := 7) (oi := { dst := some 99, op := Op.move (Operand.tmp 3), type := 3, pos := "law04.go:49", after := #[{ on := 5, ground := Ground.guard }], guard := some (5, false) }) (v := .int .i64 d) rfl (by kernel_rfl) (by kernel_rfl) (by kernel_rfl) (fun _ _ _ h => h) (Or.inl ⟨by kernel_rfl, fun W h => (by kernel_rfl)⟩) hS2 ?_
          simp only [Act.put, List.setIfInBounds_toArray, List.set_cons_zero, List.set_cons_succ]
          refine wpAnyH_take (i := 9) (oi := { dst := some 101, op := Op.move (Operand.tmp 10), type := 52, pos := "law04.go:49", after := #[{ on := 5, ground := Ground.guard }], guard := some (5, false) }) (v := .pointer (some ⟨gb, 0, none⟩)) rfl (by kernel_rfl) (by kernel_rfl) (by kernel_rfl) (fun _ _ _ h => h) (Or.inl ⟨by kernel_rfl, fun W h => (by kernel_rfl)⟩) hS2 ?_
          simp only [Act.put, List.setIfInBounds_toArray, List.set_cons_zero, List.set_cons_succ]
          refine wpAnyH_take (i := 10) (oi := { dst := some 102, op := Op.move (Operand.tmp 3), type := 3, pos := "law04.go:49", after := #[{ on := 5, ground := Ground.guard }], guard := some (5, false) }) (v := .int .i64 d) rfl (by kernel_rfl) (by kernel_rfl) (by kernel_rfl) (fun _ _ _ h => h) (Or.inl ⟨by kernel_rfl, fun W h => (by kernel_rfl)⟩) hS2 ?_
          simp only [Act.put, List.setIfInBounds_toArray, List.set_cons_zero, List.set_cons_succ]
          refine wpAnyH_ready (rs := [8]) (by kernel_rfl) (by simp) ?_
          refine AllReadyH.cons (o := { dst := some 100, op := Op.call { callee := Callee.value (Operand.func 23), args := #[Operand.tmp 98, Operand.tmp 99], argTypes := #[47, 3] }, type := 3, pos := "law04.go:49", after := #[{ on := 6, ground := Ground.data }, { on := 7, ground := Ground.data }, { on := 5, ground := Ground.chain }, { on := 5, ground := Ground.guard }], guard := some (5, false) }) rfl (fun K hK => ?_) AllReadyH.nil
          rw [if_pos (by kernel_rfl)]
          go_simp
          refine (cSlot_any gc cs es (imgOf cs) D0 hi (unhide HI) d _ hS2.2).mono ?_
          rintro e w3 ⟨rfl, hb3⟩
          have B10 := hide ((unhide B9).call hb3)
          go_wp2_with fail
          refine hK.out _ _ (⟨(unhide B10).row (gb, cs ++ (es ++ tl), 54) (by simp), (unhide B10).row (gc, cs ++ es, 51) (by simp)⟩) (fun hS3 => ?_)
          clear hK K
          refine wpAnyH_ready (rs := [11]) (by kernel_rfl) (by simp) ?_
          refine AllReadyH.cons (o := { dst := some 103, op := Op.call { callee := Callee.value (Operand.func 24), args := #[Operand.tmp 101, Operand.tmp 102], argTypes := #[52, 3] }, type := 3, pos := "law04.go:49", after := #[{ on := 9, ground := Ground.data }, { on := 10, ground := Ground.data }, { on := 8, ground := Ground.chain }, { on := 5, ground := Ground.guard }], guard := some (5, false) }) rfl (fun K hK => ?_) AllReadyH.nil
          rw [if_pos (by kernel_rfl)]
          go_simp
          refine (bSlot_any gb (imgOf cs) D0 d _ (unhide HT _ hS3.1).1 (unhide HT _ hS3.1).2).mono ?_
          rintro e w4 ⟨rfl, qq, rfl⟩
          have B11 := hide ((unhide B10).draw qq)
          go_wp2_with fail
          refine hK.out _ _ (⟨(unhide B11).row (gb, cs ++ (es ++ tl), 54) (by simp), (unhide B11).row (gc, cs ++ es, 51) (by simp)⟩) (fun hS4 => ?_)
          clear hK K
          refine wpAnyH_take (i := 12) (oi := { dst := some 104, op := Op.binOp BinOp.neq 3 (Operand.tmp 100) (Operand.tmp 103) 3, type := 4, pos := "law04.go:49", after := #[{ on := 8, ground := Ground.data }, { on := 11, ground := Ground.data }, { on := 5, ground := Ground.guard }], guard := some (5, false) }) (v := .bool false) rfl (by kernel_rfl) (by kernel_rfl) (by kernel_rfl) (fun _ _ _ h => h) (Or.inl ⟨by kernel_rfl, fun W h => run_exec_neq_int (.tmp 100) (.tmp 103) (by kernel_rfl) ((Img.freeSlot (imgOf cs) D0 d)) (by kernel_rfl) (by kernel_rfl) W⟩) hS4 ?_
          simp only [Act.put, List.setIfInBounds_toArray, List.set_cons_zero, List.set_cons_succ]
          refine wpAnyH_take (i := 13) (oi := { dst := some 105, op := Op.pick (Operand.tmp 97) (Operand.const (Value.bool true)) (Operand.tmp 104), type := 4, pos := "law04.go:49", after := #[{ on := 5, ground := Ground.data }, { on := 12, ground := Ground.data }], guard := none }) (v := .bool false) rfl (by kernel_rfl) (by kernel_rfl) (by kernel_rfl) (fun _ _ _ h => h) (Or.inl ⟨by kernel_rfl, fun W h => (by kernel_rfl)⟩) hS4 ?_
          simp only [Act.put, List.setIfInBounds_toArray, List.set_cons_zero, List.set_cons_succ]
          refine wpAnyH_take (i := 14) (oi := { dst := some 106, op := Op.move (Operand.tmp 105), type := 4, pos := "law04.go:49", after := #[{ on := 13, ground := Ground.data }, { on := 11, ground := Ground.chain }], guard := none }) (v := .bool false) rfl (by kernel_rfl) (by kernel_rfl) (by kernel_rfl) (fun _ _ _ h => h) (Or.inl ⟨by kernel_rfl, fun W h => (by kernel_rfl)⟩) hS4 ?_
          simp only [Act.put, List.setIfInBounds_toArray, List.set_cons_zero, List.set_cons_succ]
          refine wpAnyH_take (i := 15) (oi := { dst := some 107, op := Op.move (Operand.tmp 9), type := 47, pos := "law04.go:49", after := #[{ on := 14, ground := Ground.guard }], guard := some (14, false) }) (v := .pointer (some ⟨gc, 0, none⟩)) rfl (by kernel_rfl) (by kernel_rfl) (by kernel_rfl) (fun _ _ _ h => h) (Or.inl ⟨by kernel_rfl, fun W h => (by kernel_rfl)⟩) hS4 ?_
          simp only [Act.put, List.setIfInBounds_toArray, List.set_cons_zero, List.set_cons_succ]
          refine wpAnyH_take (i := 17) (oi := { dst := some 109, op := Op.move (Operand.tmp 10), type := 52, pos := "law04.go:49", after := #[{ on := 14, ground := Ground.guard }], guard := some (14, false) }) (v := .pointer (some ⟨gb, 0, none⟩)) rfl (by kernel_rfl) (by kernel_rfl) (by kernel_rfl) (fun _ _ _ h => h) (Or.inl ⟨by kernel_rfl, fun W h => (by kernel_rfl)⟩) hS4 ?_
          simp only [Act.put, List.setIfInBounds_toArray, List.set_cons_zero, List.set_cons_succ]
          refine wpAnyH_ready (rs := [16]) (by kernel_rfl) (by simp) ?_
          refine AllReadyH.cons (o := { dst := some 108, op := Op.call { callee := Callee.value (Operand.func 25), args := #[Operand.tmp 107], argTypes := #[47] }, type := 3, pos := "law04.go:49", after := #[{ on := 15, ground := Ground.data }, { on := 14, ground := Ground.chain }, { on := 14, ground := Ground.guard }], guard := some (14, false) }) rfl (fun K hK => ?_) AllReadyH.nil
          rw [if_pos (by kernel_rfl)]
          go_simp
          refine (cData_any gc cs es (imgOf cs) D0 hi (unhide HI) _ hS4.2).mono ?_
          rintro e w5 ⟨rfl, hb5⟩
          have B12 := hide ((unhide B11).call hb5)
          go_wp2_with fail
          refine hK.out _ _ (⟨(unhide B12).row (gb, cs ++ (es ++ tl), 54) (by simp), (unhide B12).row (gc, cs ++ es, 51) (by simp)⟩) (fun hS5 => ?_)
          clear hK K
          refine wpAnyH_ready (rs := [18]) (by kernel_rfl) (by simp) ?_
          refine AllReadyH.cons (o := { dst := some 110, op := Op.call { callee := Callee.value (Operand.func 26), args := #[Operand.tmp 109], argTypes := #[52] }, type := 3, pos := "law04.go:49", after := #[{ on := 17, ground := Ground.data }, { on := 16, ground := Ground.chain }, { on := 14, ground := Ground.guard }], guard := some (14, false) }) rfl (fun K hK => ?_) AllReadyH.nil
          rw [if_pos (by kernel_rfl)]
          go_simp
          refine (bData_any gb (imgOf cs) D0 _ (unhide HT _ hS5.1).1 (unhide HT _ hS5.1).2).mono ?_
          rintro e w6 ⟨rfl, rfl⟩
          go_wp2_with fail
          refine hK.out _ _ (hS5) (fun hS6 => ?_)
          clear hK K
          refine wpAnyH_take (i := 19) (oi := { dst := some 111, op := Op.binOp BinOp.neq 3 (Operand.tmp 108) (Operand.tmp 110) 3, type := 4, pos := "law04.go:49", after := #[{ on := 16, ground := Ground.data }, { on := 18, ground := Ground.data }, { on := 14, ground := Ground.guard }], guard := some (14, false) }) (v := .bool false) rfl (by kernel_rfl) (by kernel_rfl) (by kernel_rfl) (fun _ _ _ h => h) (Or.inl ⟨by kernel_rfl, fun W h => run_exec_neq_int (.tmp 108) (.tmp 110) (by kernel_rfl) ((Img.freeData (imgOf cs) D0)) (by kernel_rfl) (by kernel_rfl) W⟩) hS6 ?_
          simp only [Act.put, List.setIfInBounds_toArray, List.set_cons_zero, List.set_cons_succ]
          refine wpAnyH_take (i := 20) (oi := { dst := some 112, op := Op.pick (Operand.tmp 106) (Operand.const (Value.bool true)) (Operand.tmp 111), type := 4, pos := "law04.go:49", after := #[{ on := 14, ground := Ground.data }, { on := 19, ground := Ground.data }], guard := none }) (v := .bool false) rfl (by kernel_rfl) (by kernel_rfl) (by kernel_rfl) (fun _ _ _ h => h) (Or.inl ⟨by kernel_rfl, fun W h => (by kernel_rfl)⟩) hS6 ?_
          simp only [Act.put, List.setIfInBounds_toArray, List.set_cons_zero, List.set_cons_succ]
          refine wpAnyH_take (i := 21) (oi := { dst := some 113, op := Op.move (Operand.tmp 112), type := 4, pos := "law04.go:49", after := #[{ on := 20, ground := Ground.data }, { on := 18, ground := Ground.chain }], guard := none }) (v := .bool false) rfl (by kernel_rfl) (by kernel_rfl) (by kernel_rfl) (fun _ _ _ h => h) (Or.inl ⟨by kernel_rfl, fun W h => (by kernel_rfl)⟩) hS6 ?_
          simp only [Act.put, List.setIfInBounds_toArray, List.set_cons_zero, List.set_cons_succ]
          refine wpAnyH_take (i := 22) (oi := { dst := some 114, op := Op.move (Operand.tmp 9), type := 47, pos := "law04.go:49", after := #[{ on := 21, ground := Ground.guard }], guard := some (21, false) }) (v := .pointer (some ⟨gc, 0, none⟩)) rfl (by kernel_rfl) (by kernel_rfl) (by kernel_rfl) (fun _ _ _ h => h) (Or.inl ⟨by kernel_rfl, fun W h => (by kernel_rfl)⟩) hS6 ?_
          simp only [Act.put, List.setIfInBounds_toArray, List.set_cons_zero, List.set_cons_succ]
          refine wpAnyH_take (i := 24) (oi := { dst := some 116, op := Op.move (Operand.tmp 10), type := 52, pos := "law04.go:49", after := #[{ on := 21, ground := Ground.guard }], guard := some (21, false) }) (v := .pointer (some ⟨gb, 0, none⟩)) rfl (by kernel_rfl) (by kernel_rfl) (by kernel_rfl) (fun _ _ _ h => h) (Or.inl ⟨by kernel_rfl, fun W h => (by kernel_rfl)⟩) hS6 ?_
          simp only [Act.put, List.setIfInBounds_toArray, List.set_cons_zero, List.set_cons_succ]
          refine wpAnyH_take (i := 25) (oi := { dst := some 117, op := Op.nilCheck (Operand.tmp 116), type := 0, pos := "law04.go:49", after := #[{ on := 24, ground := Ground.data }, { on := 21, ground := Ground.guard }], guard := some (21, false) }) (v := .pointer (some ⟨gb, 0, none⟩)) rfl (by kernel_rfl) (by kernel_rfl) (by kernel_rfl) (fun _ _ _ h => h) (Or.inl ⟨by kernel_rfl, fun W h => (by kernel_rfl)⟩) hS6 ?_
          simp only [Act.put, List.setIfInBounds_toArray, List.set_cons_zero, List.set_cons_succ]
          refine wpAnyH_take (i := 26) (oi := { dst := some 118, op := Op.fieldAddr 54 (Operand.tmp 117) 0, type := 0, pos := "law04.go:49", after := #[{ on := 25, ground := Ground.data }, { on := 21, ground := Ground.guard }], guard := some (21, false) }) (v := .pointer (some ⟨gb, 0, none⟩)) rfl (by kernel_rfl) (by kernel_rfl) (by kernel_rfl) (fun _ _ _ h => h) (Or.inl ⟨by kernel_rfl, fun W h => (by kernel_rfl)⟩) hS6 ?_
          simp only [Act.put, List.setIfInBounds_toArray, List.set_cons_zero, List.set_cons_succ]
          refine wpAnyH_take (i := 27) (oi := { dst := some 119, op := Op.load 34 (Operand.tmp 118), type := 34, pos := "law04.go:49", after := #[{ on := 26, ground := Ground.data }, { on := 21, ground := Ground.guard }], guard := some (21, false) }) (v := .agg cs) rfl (by kernel_rfl) (by kernel_rfl) (by kernel_rfl) (fun _ _ _ h => h) (Or.inl ⟨by kernel_rfl, fun W h => run_exec_load_part 34 (.tmp 118) (by kernel_rfl) gb 0 94 (by kernel_rfl) W 54 (cs ++ (es ++ tl)) cs _ h.1 img_under rfl zero_img.2 (by simp; omega) (app3_fst z1)⟩) hS6 ?_
          simp only [Act.put, List.setIfInBounds_toArray, List.set_cons_zero, List.set_cons_succ]
          refine wpAnyH_take (i := 28) (oi := { dst := some 120, op := Op.move (Operand.tmp 10), type := 52, pos := "law04.go:49", after := #[{ on := 21, ground := Ground.guard }], guard := some (21, false) }) (v := .pointer (some ⟨gb, 0, none⟩)) rfl (by kernel_rfl) (by kernel_rfl) (by kernel_rfl) (fun _ _ _ h => h) (Or.inl ⟨by kernel_rfl, fun W h => (by kernel_rfl)⟩) hS6 ?_
          simp only [Act.put, List.setIfInBounds_toArray, List.set_cons_zero, List.set_cons_succ]
          refine wpAnyH_take (i := 29) (oi := { dst := some 121, op := Op.nilCheck (Operand.tmp 120), type := 0, pos := "law04.go:49", after := #[{ on := 28, ground := Ground.data }, { on := 21, ground := Ground.guard }], guard := some (21, false) }) (v := .pointer (some ⟨gb, 0, none⟩)) rfl (by kernel_rfl) (by kernel_rfl) (by kernel_rfl) (fun _ _ _ h => h) (Or.inl ⟨by kernel_rfl, fun W h => (by kernel_rfl)⟩) hS6 ?_
          simp only [Act.put, List.setIfInBounds_toArray, List.set_cons_zero, List.set_cons_succ]
          refine wpAnyH_take (i := 30) (oi := { dst := some 122, op := Op.fieldAddr 54 (Operand.tmp 121) 1, type := 0, pos := "law04.go:49", after := #[{ on := 29, ground := Ground.data }, { on := 21, ground := Ground.guard }], guard := some (21, false) }) (v := .pointer (some ⟨gb, 94, none⟩)) rfl (by kernel_rfl) (by kernel_rfl) (by kernel_rfl) (fun _ _ _ h => h) (Or.inl ⟨by kernel_rfl, fun W h => (by kernel_rfl)⟩) hS6 ?_
          simp only [Act.put, List.setIfInBounds_toArray, List.set_cons_zero, List.set_cons_succ]
          refine wpAnyH_take (i := 31) (oi := { dst := some 123, op := Op.load 34 (Operand.tmp 122), type := 34, pos := "law04.go:49", after := #[{ on := 30, ground := Ground.data }, { on := 21, ground := Ground.guard }], guard := some (21, false) }) (v := .agg es) rfl (by kernel_rfl) (by kernel_rfl) (by kernel_rfl) (fun _ _ _ h => h) (Or.inl ⟨by kernel_rfl, fun W h => run_exec_load_part 34 (.tmp 122) (by kernel_rfl) gb 94 94 (by kernel_rfl) W 54 (cs ++ (es ++ tl)) es _ h.1 img_under rfl zero_img.2 (by simp; omega) (app3_snd z1 ze)⟩) hS6 ?_
          simp only [Act.put, List.setIfInBounds_toArray, List.set_cons_zero, List.set_cons_succ]
          refine wpAnyH_take (i := 32) (oi := { dst := some 124, op := Op.binOp BinOp.eql 34 (Operand.tmp 119) (Operand.tmp 123) 34, type := 4, pos := "law04.go:49", after := #[{ on := 27, ground := Ground.data }, { on := 31, ground := Ground.data }, { on := 21, ground := Ground.guard }], guard := some (21, false) }) (v := .bool (Img.sameImg (imgOf cs) D0)) rfl (by kernel_rfl) (by kernel_rfl) (by kernel_rfl) (fun _ _ _ h => h) (Or.inl ⟨by kernel_rfl, fun W h => run_exec_eql 34 34 (.tmp 119) (.tmp 123) (by kernel_rfl) cs es (by kernel_rfl) (by kernel_rfl) _ Try.eqGuardType34 q W⟩) hS6 ?_
          simp only [Act.put, List.setIfInBounds_toArray, List.set_cons_zero, List.set_cons_succ]
          refine wpAnyH_ready (rs := [23]) (by kernel_rfl) (by simp) ?_
          refine AllReadyH.cons (o := { dst := some 115, op := Op.call { callee := Callee.value (Operand.func 27), args := #[Operand.tmp 114], argTypes := #[47] }, type := 4, pos := "law04.go:49", after := #[{ on := 22, ground := Ground.data }, { on := 21, ground := Ground.chain }, { on := 21, ground := Ground.guard }], guard := some (21, false) }) rfl (fun K hK => ?_) AllReadyH.nil
          rw [if_pos (by kernel_rfl)]
          go_simp
          refine (clean_any gc cs es (imgOf cs) D0 hi (unhide HI) _ hS6.2).mono ?_
          rintro e w7 ⟨rfl, hb7⟩
          have B13 := hide ((unhide B12).call hb7)
          go_wp2_with fail
          refine hK.out _ _ (⟨(unhide B13).row (gb, cs ++ (es ++ tl), 54) (by simp), (unhide B13).row (gc, cs ++ es, 51) (by simp)⟩) (fun hS7 => ?_)
          clear hK K
          refine wpAnyH_take (i := 33) (oi := { dst := some 125, op := Op.binOp BinOp.neq 4 (Operand.tmp 115) (Operand.tmp 124) 4, type := 4, pos := "law04.go:49", after := #[{ on := 23, ground := Ground.data }, { on := 32, ground := Ground.data }, { on := 21, ground := Ground.guard }], guard := some (21, false) }) (v := .bool false) rfl (by kernel_rfl) (by kernel_rfl) (by kernel_rfl) (fun _ _ _ h => h) (Or.inl ⟨by kernel_rfl, fun W h => run_exec_neq_bool (.tmp 115) (.tmp 124) (by kernel_rfl) ((Img.sameImg (imgOf cs) D0)) (by kernel_rfl) (by kernel_rfl) W⟩) hS7 ?_
          simp only [Act.put, List.setIfInBounds_toArray, List.set_cons_zero, List.set_cons_succ]
          refine wpAnyH_take (i := 34) (oi := { dst := some 126, op := Op.pick (Operand.tmp 113) (Operand.const (Value.bool true)) (Operand.tmp 125), type := 4, pos := "law04.go:49", after := #[{ on := 21, ground := Ground.data }, { on := 33, ground := Ground.data }], guard := none }) (v := .bool false) rfl (by kernel_rfl) (by kernel_rfl) (by kernel_rfl) (fun _ _ _ h => h) (Or.inl ⟨by kernel_rfl, fun W h => (by kernel_rfl)⟩) hS7 ?_
          simp only [Act.put, List.setIfInBounds_toArray, List.set_cons_zero, List.set_cons_succ]
          refine wpAnyH_done (by kernel_rfl) ?_ _
          go_wp2_with fail
          go_meet
          exact ⟨rfl, B13⟩
        case rest =>
          obtain ⟨rfl, B9⟩ := hcut
          clear B8
          go_wp2_with fail
          go_loopw [12] (fun i wr => ∃ j : Int, -1 ≤ j ∧ j ≤ 15 ∧ i = .int .i64 j ∧ Hid (Bx w wr ((gb, cs ++ (es ++ tl), 54) :: (gc, cs ++ es, 51) :: (gn, cs, 34) :: (w.heap.size, ds, 34) :: []))) (fun i _ => (15 - intOf i).toNat)
          case atStart => exact ⟨-1, by omega, by omega, rfl, B9⟩
          case round =>
            clear B9
            obtain ⟨j, hj1, hj2, rfl, B9⟩ := hrel
            by_cases hlj : j ≤ 14
            · have t14 : decide (j ≤ 14) = true := by simpa using hlj
              go_wp2_with fail
              refine (blockOf_any _ _).mono ?_
              have HDt := hide (show True from trivial)
              rcases Img.blocks j with h | ⟨qk, hqk, hjq⟩ | ⟨dd, hdd, hjd⟩ | ⟨xx, hxx, hjx⟩
              · rw [(kind_out h).1, (kind_out h).2]
                have HE := hide (Img.dirty_out (now := (imgOf cs)) (disk := D0) h)
                rintro e wz ⟨rfl, ez⟩
                rw [ez]
                clear ez wz h
                go_wp2_with fail
                refine (cDirty_any gc cs es (imgOf cs) D0 hi (unhide HI) j _ ((unhide B9).row (gc, cs ++ es, 51) (by simp))).mono ?_
                rw [unhide HE]
                rintro e w10 ⟨rfl, hb10⟩
                have B10 := hide ((unhide B9).call hb10)
                clear B9 hb10
                go_wp2_with fail
                go_roundw
                case rel => exact ⟨j + 1, by omega, by omega, by go_num, B10⟩
                case measure => simp [intOf]; omega
              · obtain ⟨n0, hn0⟩ : ∃ n0 : Nat, n0 = qk * 4 := ⟨_, rfl⟩
                have hn4 : n0 ≤ 4 := by omega
                have KS : kindS j = ⟨#[105, 110, 111, 100, 101, 115]⟩ := by rw [hjq]; exact (kind_ino hqk).1
                have KN : kindN j = (n0 : Int) := by rw [hjq, (kind_ino hqk).2, hn0]; omega
                rw [KS, KN]
                have HE := hide (show Img.dirty (imgOf cs) D0 j = Img.anyB (fun u => !Img.sameIno (imgOf cs) D0 (n0 + u)) 4 from by rw [hjq, Img.dirty_ino hqk, ← hn0, all_any])
                rintro e wz ⟨rfl, ez⟩
                rw [ez]
                clear ez wz KS KN hjq hn0 hqk
                go_wp2_with fail
                go_loopw [15, 16] (fun a i wr => ∃ t : Nat, t ≤ 4 ∧ i = .int .i64 t ∧ a = .bool (Img.anyB (fun u => !Img.sameIno (imgOf cs) D0 (n0 + u)) t) ∧ Hid (Bx w wr ((gb, cs ++ (es ++ tl), 54) :: (gc, cs ++ es, 51) :: (gn, cs, 34) :: (w.heap.size, ds, 34) :: []))) (fun _ i _ => 4 - (intOf i).toNat)
                case atStart => exact ⟨0, by omega, rfl, rfl, B9⟩
                case round =>
                  clear B9
                  obtain ⟨t, ht, rfl, rfl, B9⟩ := hrel
                  by_cases hlt4 : t < 4
                  · have u4 : decide ((t : Int) < 4) = true := by simp; omega
                    have ES := hide (show Img.anyB (fun u => !Img.sameIno (imgOf cs) D0 (n0 + u)) (t + 1) = (Img.anyB (fun u => !Img.sameIno (imgOf cs) D0 (n0 + u)) t || !Img.sameIno (imgOf cs) D0 (n0 + t)) from rfl)
                    cases ha : Img.anyB (fun u => !Img.sameIno (imgOf cs) D0 (n0 + u)) t
                    · have hu8 : n0 + t < 8 := by omega
                      obtain ⟨a0, a1, a2, a3, a4⟩ := (((unhide B9).has (g := gn) (by simp) hi).at).inoAt hu8
                      obtain ⟨b0, b1, b2, b3, b4⟩ := ((unhide B9).bedHas z1 (unhide HI)).inoAt hu8
                      rw [Nat.zero_add] at a0 a1 a2 a3 a4
                      have hto : ((n0 : Int) + (t : Int)).toNat = n0 + t := by omega
                      have qn := neqlInode ((imgOf cs).inode (n0 + t)) (D0.inode (n0 + t))
                      unfold inoV at qn
                      rw [show inoB ((imgOf cs).inode (n0 + t)) (D0.inode (n0 + t)) = Img.sameIno (imgOf cs) D0 (n0 + t) from rfl] at qn
                      generalize (imgOf cs).inode (n0 + t) = Ia at a0 a1 a2 a3 a4 qn
                      generalize D0.inode (n0 + t) = Ib at b0 b1 b2 b3 b4 qn
                      have lgn := (unhide B9).hi (p := (gn, cs, 34)) (by simp)
                      have lgb := (unhide B9).hi (p := (gb, cs ++ (es ++ tl), 54)) (by simp)
                      cases hv : Img.sameIno (imgOf cs) D0 (n0 + t)
                      all_goals
                        rw [hv] at qn
                        go_wp2_with fail
                        go_quiet (fail)
                        go_wp2_with fail
                        go_roundw
                        case rel => exact ⟨t + 1, by omega, by go_num, by rw [unhide ES, ha, hv]; rfl, by first | exact B9 | exact hide ((unhide B9).draw _)⟩
                        case measure => simp [intOf]; omega
                    · go_wp2_with fail
                      go_quiet (fail)
                      go_wp2_with fail
                      go_roundw
                      case rel => exact ⟨t + 1, by omega, by go_num, by rw [unhide ES, ha]; rfl, by first | exact B9 | exact hide ((unhide B9).draw _)⟩
                      case measure => simp [intOf]; omega
                  · have u4 : decide ((t : Int) < 4) = false := by simp; omega
                    have et : t = 4 := by omega
                    subst et
                    rw [← unhide HE]
                    go_wp2_with fail
                    refine (cDirty_any gc cs es (imgOf cs) D0 hi (unhide HI) j _ ((unhide B9).row (gc, cs ++ es, 51) (by simp))).mono ?_
                    rintro e w10 ⟨rfl, hb10⟩
                    have B10 := hide ((unhide B9).call hb10)
                    clear B9 hb10
                    go_wp2_with fail
                    go_roundw
                    case rel => exact ⟨j + 1, by omega, by omega, by go_num, B10⟩
                    case measure => simp [intOf]; omega
              · have KS : kindS j = ⟨#[100, 105, 114]⟩ := by rw [hjd]; exact (kind_dir hdd).1
                have KN : kindN j = (dd : Nat) := by rw [hjd]; exact (kind_dir hdd).2
                rw [KS, KN]
                have HE := hide (show Img.dirty (imgOf cs) D0 j = !Img.sameDir (imgOf cs) D0 dd from by rw [hjd]; exact Img.dirty_dir hdd)
                rintro e wz ⟨rfl, ez⟩
                rw [ez]
                clear ez wz KS KN hjd
                go_wp2_with fail
                have qd := neqlDir hi (unhide HI) hdd
                refine wp_region_held_drew (S := fun W => W.heap[gb]? = some (.cells (cs ++ (es ++ tl)) 54) ∧ W.heap[gn]? = some (.cells cs 34)) (by kernel_rfl) ⟨(unhide B9).row (gb, cs ++ (es ++ tl), 54) (by simp), (unhide B9).row (gn, cs, 34) (by simp)⟩ (fun hS => ?_)
                refine wpAnyH_take (i := 0) (oi := { dst := some 164, op := Op.move (Operand.tmp 14), type := 3, pos := "law04.go:61", after := #[], guard := none }) (v := .int .i64 (dd : Int)) rfl (by kernel_rfl) (by kernel_rfl) (by kernel_rfl) (fun _ _ _ h => h) (Or.inl ⟨by kernel_rfl, fun W h => (by kernel_rfl)⟩) hS ?_
                simp only [Act.put, List.setIfInBounds_toArray, List.set_cons_zero, List.set_cons_succ]
                refine wpAnyH_take (i := 1) (oi := { dst := some 165, op := Op.fieldAddr 34 (Operand.tmp 5) 1, type := 0, pos := "law04.go:61", after := #[], guard := none }) (v := .pointer (some ⟨gn, 40, none⟩)) rfl (by kernel_rfl) (by kernel_rfl) (by kernel_rfl) (fun _ _ _ h => h) (Or.inl ⟨by kernel_rfl, fun W h => (by kernel_rfl)⟩) hS ?_
                simp only [Act.put, List.setIfInBounds_toArray, List.set_cons_zero, List.set_cons_succ]
                refine wpAnyH_take (i := 2) (oi := { dst := some 166, op := Op.indexAddr 29 (Operand.tmp 165) (Operand.tmp 164), type := 0, pos := "law04.go:61", after := #[{ on := 1, ground := Ground.data }, { on := 0, ground := Ground.data }], guard := none }) (v := .pointer (some ⟨gn, 40 + dd * 12, none⟩)) rfl (by kernel_rfl) (by kernel_rfl) (by kernel_rfl) (fun _ _ _ h => h) (Or.inl ⟨by kernel_rfl, fun W h => run_exec_index_dir (.tmp 165) (.tmp 164) (by kernel_rfl) gn 40 dd (by kernel_rfl) (by kernel_rfl) hdd W⟩) hS ?_
                simp only [Act.put, List.setIfInBounds_toArray, List.set_cons_zero, List.set_cons_succ]
                refine wpAnyH_take (i := 3) (oi := { dst := some 167, op := Op.load 28 (Operand.tmp 166), type := 28, pos := "law04.go:61", after := #[{ on := 2, ground := Ground.data }], guard := none }) (v := .agg ((cs.extract 40 (40 + 36)).extract (dd * 12) (dd * 12 + 12))) rfl (by kernel_rfl) (by kernel_rfl) (by kernel_rfl) (fun _ _ _ h => h) (Or.inl ⟨by kernel_rfl, fun W h => run_exec_load_part 28 (.tmp 166) (by kernel_rfl) gn (40 + dd * 12) 12 (by kernel_rfl) W 34 cs ((cs.extract 40 (40 + 36)).extract (dd * 12) (dd * 12 + 12)) _ h.2 dir_under rfl dir_info (by omega) (cut_one z1 hdd)⟩) hS ?_
                simp only [Act.put, List.setIfInBounds_toArray, List.set_cons_zero, List.set_cons_succ]
                refine wpAnyH_take (i := 4) (oi := { dst := some 168, op := Op.move (Operand.tmp 10), type := 52, pos := "law04.go:61", after := #[], guard := none }) (v := .pointer (some ⟨gb, 0, none⟩)) rfl (by kernel_rfl) (by kernel_rfl) (by kernel_rfl) (fun _ _ _ h => h) (Or.inl ⟨by kernel_rfl, fun W h => (by kernel_rfl)⟩) hS ?_
                simp only [Act.put, List.setIfInBounds_toArray, List.set_cons_zero, List.set_cons_succ]
                refine wpAnyH_take (i := 5) (oi := { dst := some 169, op := Op.move (Operand.tmp 14), type := 3, pos := "law04.go:61", after := #[], guard := none }) (v := .int .i64 (dd : Int)) rfl (by kernel_rfl) (by kernel_rfl) (by kernel_rfl) (fun _ _ _ h => h) (Or.inl ⟨by kernel_rfl, fun W h => (by kernel_rfl)⟩) hS ?_
                simp only [Act.put, List.setIfInBounds_toArray, List.set_cons_zero, List.set_cons_succ]
                refine wpAnyH_take (i := 6) (oi := { dst := some 170, op := Op.nilCheck (Operand.tmp 168), type := 0, pos := "law04.go:61", after := #[{ on := 4, ground := Ground.data }], guard := none }) (v := .pointer (some ⟨gb, 0, none⟩)) rfl (by kernel_rfl) (by kernel_rfl) (by kernel_rfl) (fun _ _ _ h => h) (Or.inl ⟨by kernel_rfl, fun W h => (by kernel_rfl)⟩) hS ?_
                simp only [Act.put, List.setIfInBounds_toArray, List.set_cons_zero, List.set_cons_succ]
                refine wpAnyH_take (i := 7) (oi := { dst := some 171, op := Op.fieldAddr 54 (Operand.tmp 170) 1, type := 0, pos := "law04.go:61", after := #[{ on := 6, ground := Ground.data }], guard := none }) (v := .pointer (some ⟨gb, 94, none⟩)) rfl (by kernel_rfl) (by kernel_rfl) (by kernel_rfl) (fun _ _ _ h => h) (Or.inl ⟨by kernel_rfl, fun W h => (by kernel_rfl)⟩) hS ?_
                simp only [Act.put, List.setIfInBounds_toArray, List.set_cons_zero, List.set_cons_succ]
                refine wpAnyH_take (i := 8) (oi := { dst := some 172, op := Op.fieldAddr 34 (Operand.tmp 171) 1, type := 0, pos := "law04.go:61", after := #[{ on := 7, ground := Ground.data }], guard := none }) (v := .pointer (some ⟨gb, 134, none⟩)) rfl (by kernel_rfl) (by kernel_rfl) (by kernel_rfl) (fun _ _ _ h => h) (Or.inl ⟨by kernel_rfl, fun W h => (by kernel_rfl)⟩) hS ?_
                simp only [Act.put, List.setIfInBounds_toArray, List.set_cons_zero, List.set_cons_succ]
                refine wpAnyH_take (i := 9) (oi := { dst := some 173, op := Op.indexAddr 29 (Operand.tmp 172) (Operand.tmp 169), type := 0, pos := "law04.go:61", after := #[{ on := 8, ground := Ground.data }, { on := 5, ground := Ground.data }], guard := none }) (v := .pointer (some ⟨gb, 134 + dd * 12, none⟩)) rfl (by kernel_rfl) (by kernel_rfl) (by kernel_rfl) (fun _ _ _ h => h) (Or.inl ⟨by kernel_rfl, fun W h => run_exec_index_dir (.tmp 172) (.tmp 169) (by kernel_rfl) gb 134 dd (by kernel_rfl) (by kernel_rfl) hdd W⟩) hS ?_
                simp only [Act.put, List.setIfInBounds_toArray, List.set_cons_zero, List.set_cons_succ]
                refine wpAnyH_take (i := 10) (oi := { dst := some 174, op := Op.load 28 (Operand.tmp 173), type := 28, pos := "law04.go:61", after := #[{ on := 9, ground := Ground.data }], guard := none }) (v := .agg ((es.extract 40 (40 + 36)).extract (dd * 12) (dd * 12 + 12))) rfl (by kernel_rfl) (by kernel_rfl) (by kernel_rfl) (fun _ _ _ h => h) (Or.inl ⟨by kernel_rfl, fun W h => run_exec_load_part 28 (.tmp 173) (by kernel_rfl) gb (134 + dd * 12) 12 (by kernel_rfl) W 54 (cs ++ (es ++ tl)) ((es.extract 40 (40 + 36)).extract (dd * 12) (dd * 12 + 12)) _ h.1 dir_under rfl dir_info (by simp; omega) (cut_bed z1 ze hdd)⟩) hS ?_
                simp only [Act.put, List.setIfInBounds_toArray, List.set_cons_zero, List.set_cons_succ]
                refine wpAnyH_take (i := 11) (oi := { dst := some 175, op := Op.binOp BinOp.neq 28 (Operand.tmp 167) (Operand.tmp 174) 28, type := 4, pos := "law04.go:61", after := #[{ on := 3, ground := Ground.data }, { on := 10, ground := Ground.data }], guard := none }) (v := .bool (!Img.sameDir (imgOf cs) D0 dd)) rfl (by kernel_rfl) (by kernel_rfl) (by kernel_rfl) (fun _ _ _ h => h) (Or.inl ⟨by kernel_rfl, fun W h => run_exec_neql 28 28 (.tmp 167) (.tmp 174) (by kernel_rfl) ((cs.extract 40 (40 + 36)).extract (dd * 12) (dd * 12 + 12)) ((es.extract 40 (40 + 36)).extract (dd * 12) (dd * 12 + 12)) (by kernel_rfl) (by kernel_rfl) _ Try.eqGuardType28 qd W⟩) hS ?_
                simp only [Act.put, List.setIfInBounds_toArray, List.set_cons_zero, List.set_cons_succ]
                refine wpAnyH_take (i := 12) (oi := { dst := some 15, op := Op.assign (Operand.tmp 175), type := 4, pos := "law04.go:61", after := #[{ on := 11, ground := Ground.data }, { on := 0, ground := Ground.phase }, { on := 1, ground := Ground.phase }, { on := 2, ground := Ground.phase }, { on := 3, ground := Ground.phase }, { on := 4, ground := Ground.phase }, { on := 5, ground := Ground.phase }, { on := 6, ground := Ground.phase }, { on := 7, ground := Ground.phase }, { on := 8, ground := Ground.phase }, { on := 9, ground := Ground.phase }, { on := 10, ground := Ground.phase }, { on := 11, ground := Ground.phase }], guard := none }) (v := .bool (!Img.sameDir (imgOf cs) D0 dd)) rfl (by kernel_rfl) (by kernel_rfl) (by kernel_rfl) (fun _ _ _ h => h) (Or.inl ⟨by kernel_rfl, fun W h => (by kernel_rfl)⟩) hS ?_
                simp only [Act.put, List.setIfInBounds_toArray, List.set_cons_zero, List.set_cons_succ]
                refine wpAnyH_done (by kernel_rfl) ?_ _
                have B9x := hide ((unhide B9).call (Below.refl _ _).drew)
                clear B9
                go_wp2_with fail
                refine (cDirty_any gc cs es (imgOf cs) D0 hi (unhide HI) j _ ((unhide B9x).row (gc, cs ++ es, 51) (by simp))).mono ?_
                rw [unhide HE]
                rintro e w10 ⟨rfl, hb10⟩
                have B10 := hide ((unhide B9x).call hb10)
                clear B9x hb10
                go_wp2_with fail
                go_roundw
                case rel => first | exact ⟨j + 1, by omega, by omega, by go_num, B10⟩ | ((repeat apply Exists.intro); exact ⟨⟨j + 1, by omega, by omega, by go_num, B10⟩, rfl⟩)
                case measure => simp [intOf]; omega
              · have KS : kindS j = ⟨#[100, 97, 116, 97]⟩ := by rw [hjx]; exact (kind_data hxx).1
                have KN : kindN j = (xx : Nat) := by rw [hjx]; exact (kind_data hxx).2
                rw [KS, KN]
                have HE := hide (show Img.dirty (imgOf cs) D0 j = !Img.sameDat (imgOf cs) D0 xx from by rw [hjx]; exact Img.dirty_data hxx)
                rintro e wz ⟨rfl, ez⟩
                rw [ez]
                clear ez wz KS KN hjx
                have hA := ((unhide B9).has (g := gn) (by simp) hi)
                have hB := (unhide B9).bedHas z1 (unhide HI)
                have a1 := hA.of xx hxx
                have a2 := hA.text xx hxx
                have b1 := hB.of xx hxx
                have b2 := hB.text xx hxx
                rw [show 94 + 76 = 170 from rfl] at b1 b2
                have lgn := hA.lt
                have lgb := hB.lt
                clear hA hB
                have qn := neqlDat ((imgOf cs).of xx) (D0.of xx) ((imgOf cs).text xx) (D0.text xx)
                rw [show ((imgOf cs).of xx == D0.of xx && ((imgOf cs).text xx).toList == (D0.text xx).toList) = Img.sameDat (imgOf cs) D0 xx from rfl] at qn
                have hxz : (xx : Int) < 9 := by omega
                have BQ := hide (fun (q : Nat) => (unhide B9).draw q)
                clear B9
                go_wp2_with fail
                go_quiet (fail)
                go_wp2_with fail
                refine (cDirty_any gc cs es (imgOf cs) D0 hi (unhide HI) j _ ((unhide BQ _).row (gc, cs ++ es, 51) (by simp))).mono ?_
                rw [unhide HE]
                rintro e w10 ⟨rfl, hb10⟩
                have B10 := hide ((unhide BQ _).call hb10)
                clear BQ hb10
                go_wp2_with fail
                go_roundw
                case rel => first | exact ⟨j + 1, by omega, by omega, by go_num, B10⟩ | ((repeat apply Exists.intro); exact ⟨⟨j + 1, by omega, by omega, by go_num, B10⟩, rfl⟩)
                case measure => simp [intOf]; omega
            · have t14 : decide (j ≤ 14) = false := by simpa using hlj
              go_wp2_with fail
              have Bd := hide ((unhide B9).call (Below.refl _ _).drew)
              refine wp_region_held_drew (S := fun W => W.heap[gn]? = some (.cells cs 34)) (by kernel_rfl) ((unhide Bd).row (gn, cs, 34) (by simp)) (fun hS => ?_)
              refine wpAnyH_take (i := 0) (oi := { dst := some 195, op := Op.move (Operand.tmp 9), type := 47, pos := "law04.go:69", after := #[], guard := none }) (v := .pointer (some ⟨gc, 0, none⟩)) rfl (by kernel_rfl) (by kernel_rfl) (by kernel_rfl) (fun _ _ _ h => h) (Or.inl ⟨by kernel_rfl, fun W h => (by kernel_rfl)⟩) hS ?_
              simp only [Act.put, List.setIfInBounds_toArray, List.set_cons_zero, List.set_cons_succ]
              refine wpAnyH_take (i := 2) (oi := { dst := some 197, op := Op.move (Operand.tmp 10), type := 52, pos := "law04.go:69", after := #[], guard := none }) (v := .pointer (some ⟨gb, 0, none⟩)) rfl (by kernel_rfl) (by kernel_rfl) (by kernel_rfl) (fun _ _ _ h => h) (Or.inl ⟨by kernel_rfl, fun W h => (by kernel_rfl)⟩) hS ?_
              simp only [Act.put, List.setIfInBounds_toArray, List.set_cons_zero, List.set_cons_succ]
              refine wpAnyH_ready (rs := [1]) (by kernel_rfl) (by simp) ?_
              refine AllReadyH.cons (o := { dst := some 196, op := Op.call { callee := Callee.value (Operand.func 30), args := #[Operand.tmp 195], argTypes := #[47] }, type := 3, pos := "law04.go:69", after := #[{ on := 0, ground := Ground.data }], guard := none }) rfl (fun K hK => ?_) AllReadyH.nil
              rw [if_pos (by kernel_rfl)]
              go_simp
              refine (cSync_any gc cs es (imgOf cs) D0 hi (unhide HI) _ ((unhide Bd).row (gc, cs ++ es, 51) (by simp))).mono ?_
              rintro e w1 ⟨fs, rfl, hfs, hM⟩
              have B10 := hide ((unhide Bd).mut1 hM)
              clear hM
              go_wp2_with fail
              refine hK.out _ _ ((unhide B10).row (gn, cs, 34) (by simp)) (fun hS1 => ?_)
              clear hK K
              refine wpAnyH_ready (rs := [3]) (by kernel_rfl) (by simp) ?_
              refine AllReadyH.cons (o := { dst := some 198, op := Op.call { callee := Callee.value (Operand.func 31), args := #[Operand.tmp 197], argTypes := #[52] }, type := 3, pos := "law04.go:69", after := #[{ on := 2, ground := Ground.data }, { on := 1, ground := Ground.chain }], guard := none }) rfl (fun K hK => ?_) AllReadyH.nil
              rw [if_pos (by kernel_rfl)]
              go_simp
              refine (bSync_any gb cs es tl (imgOf cs) D0 hi (unhide HI) _ ((unhide B10).row (gb, cs ++ (es ++ tl), 54) (by simp))).mono ?_
              rintro e w2 ⟨fs2, rfl, hfs2, hM⟩
              obtain rfl : fs2 = fs := hfs2.agree hfs (Img.Agree.refl _)
              have B11 := hide ((unhide B10).mut0 hM)
              have zf := hfs2.size
              have qf := eqImg hfs2
              have qn := eqImg hi
              clear hM
              go_wp2_with fail
              refine hK.out _ _ ((unhide B11).row (gn, cs, 34) (by simp)) (fun hS2 => ?_)
              clear hK K
              refine wpAnyH_take (i := 4) (oi := { dst := some 199, op := Op.binOp BinOp.eql 3 (Operand.tmp 196) (Operand.tmp 198) 3, type := 4, pos := "law04.go:69", after := #[{ on := 1, ground := Ground.data }, { on := 3, ground := Ground.data }], guard := none }) (v := .bool true) rfl (by kernel_rfl) (by kernel_rfl) (by kernel_rfl) (fun _ _ _ h => h) (Or.inl ⟨by kernel_rfl, fun W h => run_exec_eql_int (.tmp 196) (.tmp 198) (by kernel_rfl) ((((Img.syn (imgOf cs) 8 D0).1 : Nat) : Int)) (by kernel_rfl) (by kernel_rfl) W⟩) hS2 ?_
              simp only [Act.put, List.setIfInBounds_toArray, List.set_cons_zero, List.set_cons_succ]
              refine wpAnyH_take (i := 5) (oi := { dst := some 200, op := Op.move (Operand.tmp 199), type := 4, pos := "law04.go:69", after := #[{ on := 4, ground := Ground.data }, { on := 3, ground := Ground.chain }], guard := none }) (v := .bool true) rfl (by kernel_rfl) (by kernel_rfl) (by kernel_rfl) (fun _ _ _ h => h) (Or.inl ⟨by kernel_rfl, fun W h => (by kernel_rfl)⟩) hS2 ?_
              simp only [Act.put, List.setIfInBounds_toArray, List.set_cons_zero, List.set_cons_succ]
              refine wpAnyH_take (i := 6) (oi := { dst := some 201, op := Op.move (Operand.tmp 9), type := 47, pos := "law04.go:69", after := #[{ on := 5, ground := Ground.guard }], guard := some (5, true) }) (v := .pointer (some ⟨gc, 0, none⟩)) rfl (by kernel_rfl) (by kernel_rfl) (by kernel_rfl) (fun _ _ _ h => h) (Or.inl ⟨by kernel_rfl, fun W h => (by kernel_rfl)⟩) hS2 ?_
              simp only [Act.put, List.setIfInBounds_toArray, List.set_cons_zero, List.set_cons_succ]
              refine wpAnyH_take (i := 8) (oi := { dst := some 203, op := Op.move (Operand.tmp 10), type := 52, pos := "law04.go:69", after := #[{ on := 5, ground := Ground.guard }], guard := some (5, true) }) (v := .pointer (some ⟨gb, 0, none⟩)) rfl (by kernel_rfl) (by kernel_rfl) (by kernel_rfl) (fun _ _ _ h => h) (Or.inl ⟨by kernel_rfl, fun W h => (by kernel_rfl)⟩) hS2 ?_
              simp only [Act.put, List.setIfInBounds_toArray, List.set_cons_zero, List.set_cons_succ]
              refine wpAnyH_take (i := 9) (oi := { dst := some 204, op := Op.nilCheck (Operand.tmp 203), type := 0, pos := "law04.go:69", after := #[{ on := 8, ground := Ground.data }, { on := 5, ground := Ground.guard }], guard := some (5, true) }) (v := .pointer (some ⟨gb, 0, none⟩)) rfl (by kernel_rfl) (by kernel_rfl) (by kernel_rfl) (fun _ _ _ h => h) (Or.inl ⟨by kernel_rfl, fun W h => (by kernel_rfl)⟩) hS2 ?_
              simp only [Act.put, List.setIfInBounds_toArray, List.set_cons_zero, List.set_cons_succ]
              refine wpAnyH_take (i := 10) (oi := { dst := some 205, op := Op.fieldAddr 54 (Operand.tmp 204) 1, type := 0, pos := "law04.go:69", after := #[{ on := 9, ground := Ground.data }, { on := 5, ground := Ground.guard }], guard := some (5, true) }) (v := .pointer (some ⟨gb, 94, none⟩)) rfl (by kernel_rfl) (by kernel_rfl) (by kernel_rfl) (fun _ _ _ h => h) (Or.inl ⟨by kernel_rfl, fun W h => (by kernel_rfl)⟩) hS2 ?_
              simp only [Act.put, List.setIfInBounds_toArray, List.set_cons_zero, List.set_cons_succ]
              refine wpAnyH_ready (rs := [7, 11]) (by kernel_rfl) (by simp) ?_
              refine AllReadyH.cons (o := { dst := some 202, op := Op.call { callee := Callee.value (Operand.func 18), args := #[Operand.tmp 201], argTypes := #[47] }, type := 34, pos := "law04.go:69", after := #[{ on := 6, ground := Ground.data }, { on := 5, ground := Ground.chain }, { on := 5, ground := Ground.guard }], guard := some (5, true) }) rfl (fun K hK => ?_) (AllReadyH.cons (o := { dst := some 206, op := Op.load 34 (Operand.tmp 205), type := 34, pos := "law04.go:69", after := #[{ on := 10, ground := Ground.data }, { on := 5, ground := Ground.guard }], guard := some (5, true) }) rfl (fun K hK => ?_) AllReadyH.nil)
              · skip
                rw [if_pos (by kernel_rfl)]
                go_simp
                refine (disk_any gc cs fs2 (imgOf cs) _ hi hfs2 _ ((unhide B11).row (gc, cs ++ fs2, 51) (by simp))).mono ?_
                rintro e w3 ⟨rfl, hb3⟩
                have B12 := hide ((unhide B11).call hb3)
                clear hb3
                go_wp2_with fail
                refine hK.out _ _ ((unhide B12).row (gn, cs, 34) (by simp)) (fun hS3 => ?_)
                clear hK K
                refine wpAnyH_ready (rs := [11]) (by kernel_rfl) (by simp) ?_
                refine AllReadyH.cons (o := { dst := some 206, op := Op.load 34 (Operand.tmp 205), type := 34, pos := "law04.go:69", after := #[{ on := 10, ground := Ground.data }, { on := 5, ground := Ground.guard }], guard := some (5, true) }) rfl (fun K hK => ?_) AllReadyH.nil
                rw [if_pos (by kernel_rfl)]
                refine wp_load_part 34 (.tmp 205) rfl gb 94 94 (by kernel_rfl) 54 (cs ++ (fs2 ++ tl)) fs2 _ ((unhide B12).row (gb, cs ++ (fs2 ++ tl), 54) (by simp)) img_under rfl zero_img.2 (by simp; omega) (app3_snd z1 zf) ?_
                refine hK.out _ _ ((unhide B12).row (gn, cs, 34) (by simp)) (fun hS4 => ?_)
                clear hK K
                refine wpAnyH_take (i := 12) (oi := { dst := some 207, op := Op.binOp BinOp.eql 34 (Operand.tmp 202) (Operand.tmp 206) 34, type := 4, pos := "law04.go:69", after := #[{ on := 7, ground := Ground.data }, { on := 11, ground := Ground.data }, { on := 5, ground := Ground.guard }], guard := some (5, true) }) (v := .bool true) rfl (by kernel_rfl) (by kernel_rfl) (by kernel_rfl) (fun _ _ _ h => h) (Or.inl ⟨by kernel_rfl, fun W h => run_exec_eql 34 34 (.tmp 202) (.tmp 206) (by kernel_rfl) fs2 fs2 (by kernel_rfl) (by kernel_rfl) _ Try.eqGuardType34 qf W⟩) hS4 ?_
                simp only [Act.put, List.setIfInBounds_toArray, List.set_cons_zero, List.set_cons_succ]
                refine wpAnyH_take (i := 13) (oi := { dst := some 208, op := Op.pick (Operand.tmp 200) (Operand.tmp 207) (Operand.const (Value.bool false)), type := 4, pos := "law04.go:69", after := #[{ on := 5, ground := Ground.data }, { on := 12, ground := Ground.data }], guard := none }) (v := .bool true) rfl (by kernel_rfl) (by kernel_rfl) (by kernel_rfl) (fun _ _ _ h => h) (Or.inl ⟨by kernel_rfl, fun W h => (by kernel_rfl)⟩) hS4 ?_
                simp only [Act.put, List.setIfInBounds_toArray, List.set_cons_zero, List.set_cons_succ]
                refine wpAnyH_take (i := 14) (oi := { dst := some 209, op := Op.move (Operand.tmp 208), type := 4, pos := "law04.go:69", after := #[{ on := 13, ground := Ground.data }, { on := 7, ground := Ground.chain }], guard := none }) (v := .bool true) rfl (by kernel_rfl) (by kernel_rfl) (by kernel_rfl) (fun _ _ _ h => h) (Or.inl ⟨by kernel_rfl, fun W h => (by kernel_rfl)⟩) hS4 ?_
                simp only [Act.put, List.setIfInBounds_toArray, List.set_cons_zero, List.set_cons_succ]
                refine wpAnyH_take (i := 15) (oi := { dst := some 210, op := Op.move (Operand.tmp 9), type := 47, pos := "law04.go:69", after := #[{ on := 14, ground := Ground.guard }], guard := some (14, true) }) (v := .pointer (some ⟨gc, 0, none⟩)) rfl (by kernel_rfl) (by kernel_rfl) (by kernel_rfl) (fun _ _ _ h => h) (Or.inl ⟨by kernel_rfl, fun W h => (by kernel_rfl)⟩) hS4 ?_
                simp only [Act.put, List.setIfInBounds_toArray, List.set_cons_zero, List.set_cons_succ]
                refine wpAnyH_take (i := 16) (oi := { dst := some 211, op := Op.nilCheck (Operand.tmp 210), type := 0, pos := "law04.go:69", after := #[{ on := 15, ground := Ground.data }, { on := 14, ground := Ground.guard }], guard := some (14, true) }) (v := .pointer (some ⟨gc, 0, none⟩)) rfl (by kernel_rfl) (by kernel_rfl) (by kernel_rfl) (fun _ _ _ h => h) (Or.inl ⟨by kernel_rfl, fun W h => (by kernel_rfl)⟩) hS4 ?_
                simp only [Act.put, List.setIfInBounds_toArray, List.set_cons_zero, List.set_cons_succ]
                refine wpAnyH_take (i := 17) (oi := { dst := some 212, op := Op.fieldAddr 51 (Operand.tmp 211) 0, type := 0, pos := "law04.go:69", after := #[{ on := 16, ground := Ground.data }, { on := 14, ground := Ground.guard }], guard := some (14, true) }) (v := .pointer (some ⟨gc, 0, none⟩)) rfl (by kernel_rfl) (by kernel_rfl) (by kernel_rfl) (fun _ _ _ h => h) (Or.inl ⟨by kernel_rfl, fun W h => (by kernel_rfl)⟩) hS4 ?_
                simp only [Act.put, List.setIfInBounds_toArray, List.set_cons_zero, List.set_cons_succ]
                refine wpAnyH_take (i := 19) (oi := { dst := some 214, op := Op.load 34 (Operand.tmp 5), type := 34, pos := "law04.go:69", after := #[{ on := 14, ground := Ground.guard }], guard := some (14, true) }) (v := .agg cs) rfl (by kernel_rfl) (by kernel_rfl) (by kernel_rfl) (fun _ _ _ h => h) (Or.inl ⟨by kernel_rfl, fun W h => run_exec_load_part 34 (.tmp 5) (by kernel_rfl) gn 0 94 (by kernel_rfl) W 34 cs cs _ h img_under rfl zero_img.2 (by omega) (row_all z1)⟩) hS4 ?_
                simp only [Act.put, List.setIfInBounds_toArray, List.set_cons_zero, List.set_cons_succ]
                refine wpAnyH_ready (rs := [18]) (by kernel_rfl) (by simp) ?_
                refine AllReadyH.cons (o := { dst := some 213, op := Op.load 34 (Operand.tmp 212), type := 34, pos := "law04.go:69", after := #[{ on := 17, ground := Ground.data }, { on := 14, ground := Ground.guard }], guard := some (14, true) }) rfl (fun K hK => ?_) AllReadyH.nil
                rw [if_pos (by kernel_rfl)]
                refine wp_load_part 34 (.tmp 212) rfl gc 0 94 (by kernel_rfl) 51 (cs ++ fs2) cs _ ((unhide B12).row (gc, cs ++ fs2, 51) (by simp)) img_under rfl zero_img.2 (by simp; omega) (app_fst z1) ?_
                refine hK.out _ _ ((unhide B12).row (gn, cs, 34) (by simp)) (fun hS5 => ?_)
                clear hK K
                refine wpAnyH_take (i := 20) (oi := { dst := some 215, op := Op.binOp BinOp.eql 34 (Operand.tmp 213) (Operand.tmp 214) 34, type := 4, pos := "law04.go:69", after := #[{ on := 18, ground := Ground.data }, { on := 19, ground := Ground.data }, { on := 14, ground := Ground.guard }], guard := some (14, true) }) (v := .bool true) rfl (by kernel_rfl) (by kernel_rfl) (by kernel_rfl) (fun _ _ _ h => h) (Or.inl ⟨by kernel_rfl, fun W h => run_exec_eql 34 34 (.tmp 213) (.tmp 214) (by kernel_rfl) cs cs (by kernel_rfl) (by kernel_rfl) _ Try.eqGuardType34 qn W⟩) hS5 ?_
                simp only [Act.put, List.setIfInBounds_toArray, List.set_cons_zero, List.set_cons_succ]
                refine wpAnyH_take (i := 21) (oi := { dst := some 216, op := Op.pick (Operand.tmp 209) (Operand.tmp 215) (Operand.const (Value.bool false)), type := 4, pos := "law04.go:69", after := #[{ on := 14, ground := Ground.data }, { on := 20, ground := Ground.data }], guard := none }) (v := .bool true) rfl (by kernel_rfl) (by kernel_rfl) (by kernel_rfl) (fun _ _ _ h => h) (Or.inl ⟨by kernel_rfl, fun W h => (by kernel_rfl)⟩) hS5 ?_
                simp only [Act.put, List.setIfInBounds_toArray, List.set_cons_zero, List.set_cons_succ]
                refine wpAnyH_take (i := 22) (oi := { dst := some 8, op := Op.assign (Operand.tmp 216), type := 4, pos := "law04.go:69", after := #[{ on := 21, ground := Ground.data }, { on := 14, ground := Ground.chain }, { on := 0, ground := Ground.phase }, { on := 1, ground := Ground.phase }, { on := 2, ground := Ground.phase }, { on := 3, ground := Ground.phase }, { on := 4, ground := Ground.phase }, { on := 5, ground := Ground.phase }, { on := 6, ground := Ground.phase }, { on := 7, ground := Ground.phase }, { on := 8, ground := Ground.phase }, { on := 9, ground := Ground.phase }, { on := 10, ground := Ground.phase }, { on := 11, ground := Ground.phase }, { on := 12, ground := Ground.phase }, { on := 13, ground := Ground.phase }, { on := 14, ground := Ground.phase }, { on := 15, ground := Ground.phase }, { on := 16, ground := Ground.phase }, { on := 17, ground := Ground.phase }, { on := 18, ground := Ground.phase }, { on := 19, ground := Ground.phase }, { on := 20, ground := Ground.phase }, { on := 21, ground := Ground.phase }], guard := none }) (v := .bool true) rfl (by kernel_rfl) (by kernel_rfl) (by kernel_rfl) (fun _ _ _ h => h) (Or.inl ⟨by kernel_rfl, fun W h => (by kernel_rfl)⟩) hS5 ?_
                simp only [Act.put, List.setIfInBounds_toArray, List.set_cons_zero, List.set_cons_succ]
                refine wpAnyH_done (by kernel_rfl) ?_ _
                go_wp2_with fail
                go_ret
                exact ⟨rfl, (unhide B12).below⟩
              · skip
                rw [if_pos (by kernel_rfl)]
                refine wp_load_part 34 (.tmp 205) rfl gb 94 94 (by kernel_rfl) 54 (cs ++ (fs2 ++ tl)) fs2 _ ((unhide B11).row (gb, cs ++ (fs2 ++ tl), 54) (by simp)) img_under rfl zero_img.2 (by simp; omega) (app3_snd z1 zf) ?_
                refine hK.out _ _ ((unhide B11).row (gn, cs, 34) (by simp)) (fun hS3 => ?_)
                clear hK K
                refine wpAnyH_ready (rs := [7]) (by kernel_rfl) (by simp) ?_
                refine AllReadyH.cons (o := { dst := some 202, op := Op.call { callee := Callee.value (Operand.func 18), args := #[Operand.tmp 201], argTypes := #[47] }, type := 34, pos := "law04.go:69", after := #[{ on := 6, ground := Ground.data }, { on := 5, ground := Ground.chain }, { on := 5, ground := Ground.guard }], guard := some (5, true) }) rfl (fun K hK => ?_) AllReadyH.nil
                rw [if_pos (by kernel_rfl)]
                go_simp
                refine (disk_any gc cs fs2 (imgOf cs) _ hi hfs2 _ ((unhide B11).row (gc, cs ++ fs2, 51) (by simp))).mono ?_
                rintro e w3 ⟨rfl, hb3⟩
                have B12 := hide ((unhide B11).call hb3)
                clear hb3
                go_wp2_with fail
                refine hK.out _ _ ((unhide B12).row (gn, cs, 34) (by simp)) (fun hS4 => ?_)
                clear hK K
                refine wpAnyH_take (i := 12) (oi := { dst := some 207, op := Op.binOp BinOp.eql 34 (Operand.tmp 202) (Operand.tmp 206) 34, type := 4, pos := "law04.go:69", after := #[{ on := 7, ground := Ground.data }, { on := 11, ground := Ground.data }, { on := 5, ground := Ground.guard }], guard := some (5, true) }) (v := .bool true) rfl (by kernel_rfl) (by kernel_rfl) (by kernel_rfl) (fun _ _ _ h => h) (Or.inl ⟨by kernel_rfl, fun W h => run_exec_eql 34 34 (.tmp 202) (.tmp 206) (by kernel_rfl) fs2 fs2 (by kernel_rfl) (by kernel_rfl) _ Try.eqGuardType34 qf W⟩) hS4 ?_
                simp only [Act.put, List.setIfInBounds_toArray, List.set_cons_zero, List.set_cons_succ]
                refine wpAnyH_take (i := 13) (oi := { dst := some 208, op := Op.pick (Operand.tmp 200) (Operand.tmp 207) (Operand.const (Value.bool false)), type := 4, pos := "law04.go:69", after := #[{ on := 5, ground := Ground.data }, { on := 12, ground := Ground.data }], guard := none }) (v := .bool true) rfl (by kernel_rfl) (by kernel_rfl) (by kernel_rfl) (fun _ _ _ h => h) (Or.inl ⟨by kernel_rfl, fun W h => (by kernel_rfl)⟩) hS4 ?_
                simp only [Act.put, List.setIfInBounds_toArray, List.set_cons_zero, List.set_cons_succ]
                refine wpAnyH_take (i := 14) (oi := { dst := some 209, op := Op.move (Operand.tmp 208), type := 4, pos := "law04.go:69", after := #[{ on := 13, ground := Ground.data }, { on := 7, ground := Ground.chain }], guard := none }) (v := .bool true) rfl (by kernel_rfl) (by kernel_rfl) (by kernel_rfl) (fun _ _ _ h => h) (Or.inl ⟨by kernel_rfl, fun W h => (by kernel_rfl)⟩) hS4 ?_
                simp only [Act.put, List.setIfInBounds_toArray, List.set_cons_zero, List.set_cons_succ]
                refine wpAnyH_take (i := 15) (oi := { dst := some 210, op := Op.move (Operand.tmp 9), type := 47, pos := "law04.go:69", after := #[{ on := 14, ground := Ground.guard }], guard := some (14, true) }) (v := .pointer (some ⟨gc, 0, none⟩)) rfl (by kernel_rfl) (by kernel_rfl) (by kernel_rfl) (fun _ _ _ h => h) (Or.inl ⟨by kernel_rfl, fun W h => (by kernel_rfl)⟩) hS4 ?_
                simp only [Act.put, List.setIfInBounds_toArray, List.set_cons_zero, List.set_cons_succ]
                refine wpAnyH_take (i := 16) (oi := { dst := some 211, op := Op.nilCheck (Operand.tmp 210), type := 0, pos := "law04.go:69", after := #[{ on := 15, ground := Ground.data }, { on := 14, ground := Ground.guard }], guard := some (14, true) }) (v := .pointer (some ⟨gc, 0, none⟩)) rfl (by kernel_rfl) (by kernel_rfl) (by kernel_rfl) (fun _ _ _ h => h) (Or.inl ⟨by kernel_rfl, fun W h => (by kernel_rfl)⟩) hS4 ?_
                simp only [Act.put, List.setIfInBounds_toArray, List.set_cons_zero, List.set_cons_succ]
                refine wpAnyH_take (i := 17) (oi := { dst := some 212, op := Op.fieldAddr 51 (Operand.tmp 211) 0, type := 0, pos := "law04.go:69", after := #[{ on := 16, ground := Ground.data }, { on := 14, ground := Ground.guard }], guard := some (14, true) }) (v := .pointer (some ⟨gc, 0, none⟩)) rfl (by kernel_rfl) (by kernel_rfl) (by kernel_rfl) (fun _ _ _ h => h) (Or.inl ⟨by kernel_rfl, fun W h => (by kernel_rfl)⟩) hS4 ?_
                simp only [Act.put, List.setIfInBounds_toArray, List.set_cons_zero, List.set_cons_succ]
                refine wpAnyH_take (i := 19) (oi := { dst := some 214, op := Op.load 34 (Operand.tmp 5), type := 34, pos := "law04.go:69", after := #[{ on := 14, ground := Ground.guard }], guard := some (14, true) }) (v := .agg cs) rfl (by kernel_rfl) (by kernel_rfl) (by kernel_rfl) (fun _ _ _ h => h) (Or.inl ⟨by kernel_rfl, fun W h => run_exec_load_part 34 (.tmp 5) (by kernel_rfl) gn 0 94 (by kernel_rfl) W 34 cs cs _ h img_under rfl zero_img.2 (by omega) (row_all z1)⟩) hS4 ?_
                simp only [Act.put, List.setIfInBounds_toArray, List.set_cons_zero, List.set_cons_succ]
                refine wpAnyH_ready (rs := [18]) (by kernel_rfl) (by simp) ?_
                refine AllReadyH.cons (o := { dst := some 213, op := Op.load 34 (Operand.tmp 212), type := 34, pos := "law04.go:69", after := #[{ on := 17, ground := Ground.data }, { on := 14, ground := Ground.guard }], guard := some (14, true) }) rfl (fun K hK => ?_) AllReadyH.nil
                rw [if_pos (by kernel_rfl)]
                refine wp_load_part 34 (.tmp 212) rfl gc 0 94 (by kernel_rfl) 51 (cs ++ fs2) cs _ ((unhide B12).row (gc, cs ++ fs2, 51) (by simp)) img_under rfl zero_img.2 (by simp; omega) (app_fst z1) ?_
                refine hK.out _ _ ((unhide B12).row (gn, cs, 34) (by simp)) (fun hS5 => ?_)
                clear hK K
                refine wpAnyH_take (i := 20) (oi := { dst := some 215, op := Op.binOp BinOp.eql 34 (Operand.tmp 213) (Operand.tmp 214) 34, type := 4, pos := "law04.go:69", after := #[{ on := 18, ground := Ground.data }, { on := 19, ground := Ground.data }, { on := 14, ground := Ground.guard }], guard := some (14, true) }) (v := .bool true) rfl (by kernel_rfl) (by kernel_rfl) (by kernel_rfl) (fun _ _ _ h => h) (Or.inl ⟨by kernel_rfl, fun W h => run_exec_eql 34 34 (.tmp 213) (.tmp 214) (by kernel_rfl) cs cs (by kernel_rfl) (by kernel_rfl) _ Try.eqGuardType34 qn W⟩) hS5 ?_
                simp only [Act.put, List.setIfInBounds_toArray, List.set_cons_zero, List.set_cons_succ]
                refine wpAnyH_take (i := 21) (oi := { dst := some 216, op := Op.pick (Operand.tmp 209) (Operand.tmp 215) (Operand.const (Value.bool false)), type := 4, pos := "law04.go:69", after := #[{ on := 14, ground := Ground.data }, { on := 20, ground := Ground.data }], guard := none }) (v := .bool true) rfl (by kernel_rfl) (by kernel_rfl) (by kernel_rfl) (fun _ _ _ h => h) (Or.inl ⟨by kernel_rfl, fun W h => (by kernel_rfl)⟩) hS5 ?_
                simp only [Act.put, List.setIfInBounds_toArray, List.set_cons_zero, List.set_cons_succ]
                refine wpAnyH_take (i := 22) (oi := { dst := some 8, op := Op.assign (Operand.tmp 216), type := 4, pos := "law04.go:69", after := #[{ on := 21, ground := Ground.data }, { on := 14, ground := Ground.chain }, { on := 0, ground := Ground.phase }, { on := 1, ground := Ground.phase }, { on := 2, ground := Ground.phase }, { on := 3, ground := Ground.phase }, { on := 4, ground := Ground.phase }, { on := 5, ground := Ground.phase }, { on := 6, ground := Ground.phase }, { on := 7, ground := Ground.phase }, { on := 8, ground := Ground.phase }, { on := 9, ground := Ground.phase }, { on := 10, ground := Ground.phase }, { on := 11, ground := Ground.phase }, { on := 12, ground := Ground.phase }, { on := 13, ground := Ground.phase }, { on := 14, ground := Ground.phase }, { on := 15, ground := Ground.phase }, { on := 16, ground := Ground.phase }, { on := 17, ground := Ground.phase }, { on := 18, ground := Ground.phase }, { on := 19, ground := Ground.phase }, { on := 20, ground := Ground.phase }, { on := 21, ground := Ground.phase }], guard := none }) (v := .bool true) rfl (by kernel_rfl) (by kernel_rfl) (by kernel_rfl) (fun _ _ _ h => h) (Or.inl ⟨by kernel_rfl, fun W h => (by kernel_rfl)⟩) hS5 ?_
                simp only [Act.put, List.setIfInBounds_toArray, List.set_cons_zero, List.set_cons_succ]
                refine wpAnyH_done (by kernel_rfl) ?_ _
                go_wp2_with fail
                go_ret
                exact ⟨rfl, (unhide B12).below⟩
end Go.Proofs.Ytgipceeheohafab
