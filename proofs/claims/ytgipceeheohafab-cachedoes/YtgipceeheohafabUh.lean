/-
  The walk of eiderdownref.WriteAs, of images that lie anywhere in a block.
-/
import Derived.Test.YtgipceeheohafabUf
import Derived.Test.YtgipceeheohafabUg
namespace Go.Proofs.Ytgipceeheohafab
open Go.RowKit
theorem ecells {X : World} {g : Nat} {n : ByteArray} {i s : Int} (h : X.heap[g]? = some (.cells #[.string n, .int .i64 i, .int .i64 s] 27)) : X.cell? ⟨g, 0, none⟩ = some (.string n) ∧ X.cell? ⟨g, 1, none⟩ = some (.int .i64 i) ∧ X.cell? ⟨g, 2, none⟩ = some (.int .i64 s) :=
  ⟨by rw [cell_of_row _ _ _ _ _ _ h]; rfl, by rw [cell_of_row _ _ _ _ _ _ h]; rfl, by rw [cell_of_row _ _ _ _ _ _ h]; rfl⟩
set_option maxRecDepth 100000 in
set_option maxHeartbeats 2000000 in
theorem rWrite_out {ob oc : Nat} (b c : Nat) (m k : Img) (n : Int) (hn : Img.inB n = false) (w : World) (hm : HasAt w b ob m) (hk : RowAt w c oc k) :
    Calls Try.prog 46 #[.pointer (some ⟨b, ob, none⟩), .pointer (some ⟨c, oc, none⟩), .int .i64 n] w fun e w' => Written (k) false e ∧ Below w.heap.size w w' := by
  have hkh := hide hk.has
  obtain ⟨cs, big, tb, hh, hle, hcb, hi⟩ := hk
  have z := zero_img.1
  have hT := hide (Two.start w zeroCells zeroCells)
  have hlb := hm.lt
  have hlc : c < w.heap.size := (Array.getElem?_eq_some_iff.1 hh).1
  have H1 := hide (show ((w.alloc (.cells zeroCells 34)).heap[c]? = some (.cells big tb)) by rw [Below.heap_alloc _ _ _ (by omega)]; exact hh)
  have hz := hide (show zeroCells.size = cs.size by rw [hi.size]; exact size_newTo 0)
  go_enter Try.func46, Try.ntmps46
  go_wp2_with (first | (refine wpList_load_part rfl 34 _ rfl c oc 94 rfl tb big _ (unhide H1) img_under rfl zero_img.2 hle ?_; rw [hcb]) | (refine wpList_store_row rfl 34 _ _ rfl (w.heap.size + 1) cs rfl rfl 34 zeroCells (unhide hT).b1 (img_info hi.size) (unhide hz) hi.all ?_))
  have hT2 := hide ((unhide hT).row cs)
  clear hT H1 hz
  generalize ((w.alloc (.cells zeroCells 34)).alloc (.cells zeroCells 34)).setRow (w.heap.size + 1) cs = X at hT2 ⊢
  refine (blockOf_any _ _).mono ?_
  rw [(kind_out hn).1, (kind_out hn).2]
  rintro e w1 ⟨rfl, e1⟩
  rw [e1]
  clear e1 w1
  go_wp2_with (first | (refine wpList_load_row rfl 34 _ rfl (w.heap.size + 1) rfl 34 cs (0, 0) _ (unhide hT2).b1 img_under rfl (img_info hi.size) ?_) | (refine wpList_store_row rfl 34 _ _ rfl w.heap.size cs rfl rfl 34 zeroCells (unhide hT2).b0 (img_info hi.size) (by rw [hi.size]; exact size_newTo 0) hi.all ?_))
  refine bodyPost_ret (v := .tuple #[.agg cs, .bool false]) ?_ rfl ⟨⟨cs, rfl, hi⟩, below_setRow (unhide hT2).below (Nat.le_refl _) _⟩
  exact results_row_tmp (P := Try.prog) Try.results46 _ _ w.heap.size 34 cs (0, 0) _ _ rfl rfl (setRow_heap _ _ _ _ _ _ (unhide hT2).b0) img_under rfl (img_info hi.size)
set_option maxRecDepth 100000 in
set_option maxHeartbeats 2000000 in
theorem rWrite_ino {ob oc : Nat} (b c : Nat) (m k : Img) (q : Nat) (hq : q + 4 ≤ 8) (n : Int) (hn : kindS n = ⟨#[105, 110, 111, 100, 101, 115]⟩ ∧ kindN n = (q : Nat)) (w : World) (hm : HasAt w b ob m) (hk : RowAt w c oc k) :
    Calls Try.prog 46 #[.pointer (some ⟨b, ob, none⟩), .pointer (some ⟨c, oc, none⟩), .int .i64 n] w fun e w' => Written (Img.wInos m k q 4) true e ∧ Below w.heap.size w w' := by
  have hkh := hide hk.has
  obtain ⟨cs, big, tb, hh, hle, hcb, hi⟩ := hk
  have z := zero_img.1
  have hT := hide (Two.start w zeroCells zeroCells)
  have hlb := hm.lt
  have hlc : c < w.heap.size := (Array.getElem?_eq_some_iff.1 hh).1
  have H1 := hide (show ((w.alloc (.cells zeroCells 34)).heap[c]? = some (.cells big tb)) by rw [Below.heap_alloc _ _ _ (by omega)]; exact hh)
  have hz := hide (show zeroCells.size = cs.size by rw [hi.size]; exact size_newTo 0)
  go_enter Try.func46, Try.ntmps46
  go_wp2_with (first | (refine wpList_load_part rfl 34 _ rfl c oc 94 rfl tb big _ (unhide H1) img_under rfl zero_img.2 hle ?_; rw [hcb]) | (refine wpList_store_row rfl 34 _ _ rfl (w.heap.size + 1) cs rfl rfl 34 zeroCells (unhide hT).b1 (img_info hi.size) (unhide hz) hi.all ?_))
  have hT2 := hide ((unhide hT).row cs)
  clear hT H1 hz
  generalize ((w.alloc (.cells zeroCells 34)).alloc (.cells zeroCells 34)).setRow (w.heap.size + 1) cs = X at hT2 ⊢
  refine (blockOf_any _ _).mono ?_
  rw [hn.1, hn.2]
  rintro e w1 ⟨rfl, e1⟩
  rw [e1]
  clear e1 w1
  go_wp2_with fail
  go_loopw [11] (fun i wr => ∃ kk : Nat, kk ≤ 4 ∧ i = .int .i64 kk ∧ ∃ c1, Two w wr (w.heap.size + 1) zeroCells c1 ∧ IsImg c1 (Img.wInos m k q kk)) (fun i _ => 4 - (intOf i).toNat)
  case atStart => exact ⟨0, by omega, rfl, cs, unhide hT2, hi⟩
  case round =>
    clear hT2
    obtain ⟨kk, hq2, rfl, c1, ht, hi1⟩ := hrel
    have hT3 := hide ht
    clear ht
    by_cases hlt : kk < 4
    · have hm1 := hide (hm.below (unhide hT3).below hlb)
      have hk1 := hide ((unhide hkh).below (unhide hT3).below hlc)
      have hd4 : decide ((kk : Int) < 4) = true := by simp; omega
      obtain ⟨jj, ej⟩ : ∃ jj : Nat, jj = q + kk := ⟨_, rfl⟩
      have EJ := hide (show (q : Int) + (kk : Int) = (jj : Int) by omega)
      have hj8 : jj < 8 := by omega
      have HJ := hide ej
      clear ej
      go_wp2_with fail
      rw [unhide EJ]
      refine (At.rInode_any b c m k jj hj8 _ (unhide hm1) (unhide hk1)).mono ?_
      rintro e w1 ⟨rfl, hb1⟩
      have hT4 := hide ((unhide hT3).call hb1)
      obtain ⟨v0, f0⟩ := (unhide hT4).cell (i := jj * 5) (by rw [hi1.size]; omega)
      obtain ⟨v1, f1⟩ := (unhide hT4).cell (i := jj * 5 + 1) (by rw [hi1.size]; omega)
      obtain ⟨v2, f2⟩ := (unhide hT4).cell (i := jj * 5 + 1 + 1) (by rw [hi1.size]; omega)
      obtain ⟨v3, f3⟩ := (unhide hT4).cell (i := jj * 5 + 1 + 1 + 1) (by rw [hi1.size]; omega)
      obtain ⟨v4, f4⟩ := (unhide hT4).cell (i := jj * 5 + 1 + 1 + 1 + 1) (by rw [hi1.size]; omega)
      have fz := (unhide hT4).frozen
      have hI := hide (hi1.putIno (n := jj) hj8 (Img.inodeAs m k jj))
      clear hm1 hk1 hT3 hb1
      unfold inoV
      obtain ⟨I, eI⟩ : ∃ I, I = Img.inodeAs m k jj := ⟨_, rfl⟩
      rw [← eI] at hI ⊢
      go_wp2_with fail
      go_roundw
      case rel => exact ⟨kk + 1, by omega, by go_num, _, ((((((unhide hT4).set _ _).set _ _).set _ _).set _ _).set _ _), by rw [Img.wInos, ← unhide HJ, ← eI]; exact unhide hI⟩
      case measure => simp [intOf]; omega
    · have e : kk = 4 := by omega
      subst e
      go_wp2_with (first | (refine wpList_load_row rfl 34 _ rfl (w.heap.size + 1) rfl 34 c1 (0, 0) _ (unhide hT3).b1 img_under rfl (img_info hi1.size) ?_) | (refine wpList_store_row rfl 34 _ _ rfl w.heap.size c1 rfl rfl 34 zeroCells (unhide hT3).b0 (img_info hi1.size) (by rw [hi1.size]; exact size_newTo 0) hi1.all ?_))
      refine bodyPost_ret (v := .tuple #[.agg c1, .bool true]) ?_ rfl ⟨⟨c1, rfl, hi1⟩, below_setRow (unhide hT3).below (Nat.le_refl _) _⟩
      exact results_row_tmp (P := Try.prog) Try.results46 _ _ w.heap.size 34 c1 (0, 0) _ _ rfl rfl (setRow_heap _ _ _ _ _ _ (unhide hT3).b0) img_under rfl (img_info hi1.size)
set_option maxRecDepth 100000 in
set_option maxHeartbeats 2000000 in
theorem rWrite_dir {ob oc : Nat} (b c : Nat) (m k : Img) (d : Nat) (hd : d < 3) (n : Int) (hn : kindS n = ⟨#[100, 105, 114]⟩ ∧ kindN n = (d : Nat)) (w : World) (hm : HasAt w b ob m) (hk : RowAt w c oc k) :
    Calls Try.prog 46 #[.pointer (some ⟨b, ob, none⟩), .pointer (some ⟨c, oc, none⟩), .int .i64 n] w fun e w' => Written (Img.wDir m k d 4) true e ∧ Below w.heap.size w w' := by
  have hkh := hide hk.has
  obtain ⟨cs, big, tb, hh, hle, hcb, hi⟩ := hk
  have z := zero_img.1
  have hT := hide (Two.start w zeroCells zeroCells)
  have hlb := hm.lt
  have hlc : c < w.heap.size := (Array.getElem?_eq_some_iff.1 hh).1
  have H1 := hide (show ((w.alloc (.cells zeroCells 34)).heap[c]? = some (.cells big tb)) by rw [Below.heap_alloc _ _ _ (by omega)]; exact hh)
  have hz := hide (show zeroCells.size = cs.size by rw [hi.size]; exact size_newTo 0)
  go_enter Try.func46, Try.ntmps46
  go_wp2_with (first | (refine wpList_load_part rfl 34 _ rfl c oc 94 rfl tb big _ (unhide H1) img_under rfl zero_img.2 hle ?_; rw [hcb]) | (refine wpList_store_row rfl 34 _ _ rfl (w.heap.size + 1) cs rfl rfl 34 zeroCells (unhide hT).b1 (img_info hi.size) (unhide hz) hi.all ?_))
  have hT2 := hide ((unhide hT).row cs)
  clear hT H1 hz
  generalize ((w.alloc (.cells zeroCells 34)).alloc (.cells zeroCells 34)).setRow (w.heap.size + 1) cs = X at hT2 ⊢
  refine (blockOf_any _ _).mono ?_
  rw [hn.1, hn.2]
  rintro e w1 ⟨rfl, e1⟩
  rw [e1]
  clear e1 w1
  go_wp2_with fail
  go_loopw [12] (fun i wr => ∃ s : Nat, s ≤ 4 ∧ i = .int .i64 s ∧ ∃ c1, Two w wr (w.heap.size + 1) zeroCells c1 ∧ IsImg c1 (Img.wDir m k d s)) (fun i _ => 4 - (intOf i).toNat)
  case atStart => exact ⟨0, by omega, rfl, cs, unhide hT2, hi⟩
  case round =>
    clear hT2
    obtain ⟨s, hs, rfl, c1, ht, hi1⟩ := hrel
    have hT3 := hide ht
    clear ht
    by_cases hlt : s < 4
    · have hd4 : decide ((s : Int) < 4) = true := by simp; omega
      have hm1 := hide (hm.below (unhide hT3).below hlb)
      have hk1 := hide (has_of_row (unhide hT3).b1 hi1).at
      have hI := hide (hi1.putEnt hd hlt (Img.entryAs m (Img.wDir m k d s) d s) (entryAs_small hm.small hi1.small d s))
      go_wp2_with fail
      refine (At.rEntry_any b (w.heap.size + 1) m (Img.wDir m k d s) d s hd hlt _ (unhide hm1) (unhide hk1)).mono ?_
      rintro e w1 ⟨rfl, hb1⟩
      have hT4 := hide ((unhide hT3).call hb1)
      clear hm1 hk1 hT3 hb1
      unfold entV
      obtain ⟨I, eI⟩ : ∃ I, I = Img.entryAs m (Img.wDir m k d s) d s := ⟨_, rfl⟩
      rw [← eI] at hI ⊢
      have EI := hide eI
      clear eI
      have hT5 := hide ((unhide hT4).call ((Below.refl _ _).alloc (Nat.le_refl _) (.cells #[.string I.name, .int .i64 I.ino, .int .i64 I.est] 27)))
      obtain ⟨e0, e1, e2⟩ := ecells (heap_alloc_last w1 (.cells #[.string I.name, .int .i64 I.ino, .int .i64 I.est] 27))
      obtain ⟨v0, f0⟩ := (unhide hT5).cell (i := 40 + d * 12 + s * 3) (by rw [hi1.size]; omega)
      obtain ⟨v1, f1⟩ := (unhide hT5).cell (i := 40 + d * 12 + s * 3 + 1) (by rw [hi1.size]; omega)
      obtain ⟨v2, f2⟩ := (unhide hT5).cell (i := 40 + d * 12 + s * 3 + 1 + 1) (by rw [hi1.size]; omega)
      have fz := (unhide hT5).frozen
      have hT6 := hide ((unhide hT5).call ((Below.refl _ _).drew))
      go_wp2_with fail
      generalize w1.alloc (.cells #[.string I.name, .int .i64 I.ino, .int .i64 I.est] 27) = X at hT5 hT6 e0 e1 e2 f0 f1 f2 fz ⊢
      generalize w1.heap.size = ge at e0 e1 e2 ⊢
      go_region
      all_goals
        go_wp2_with fail
        go_roundw
        case rel => exact ⟨s + 1, by omega, by go_num, _, ((((unhide hT6).set _ _).set _ _).set _ _), by rw [Img.wDir_step, ← unhide EI]; exact unhide hI⟩
        case measure => simp [intOf]; omega
    · have e : s = 4 := by omega
      subst e
      go_wp2_with (first | (refine wpList_load_row rfl 34 _ rfl (w.heap.size + 1) rfl 34 c1 (0, 0) _ (unhide hT3).b1 img_under rfl (img_info hi1.size) ?_) | (refine wpList_store_row rfl 34 _ _ rfl w.heap.size c1 rfl rfl 34 zeroCells (unhide hT3).b0 (img_info hi1.size) (by rw [hi1.size]; exact size_newTo 0) hi1.all ?_))
      refine bodyPost_ret (v := .tuple #[.agg c1, .bool true]) ?_ rfl ⟨⟨c1, rfl, hi1⟩, below_setRow (unhide hT3).below (Nat.le_refl _) _⟩
      exact results_row_tmp (P := Try.prog) Try.results46 _ _ w.heap.size 34 c1 (0, 0) _ _ rfl rfl (setRow_heap _ _ _ _ _ _ (unhide hT3).b0) img_under rfl (img_info hi1.size)
set_option maxRecDepth 100000 in
set_option maxHeartbeats 2000000 in
theorem rWrite_data {ob oc : Nat} (b c : Nat) (m k : Img) (x : Nat) (hx : x < 9) (n : Int) (hn : kindS n = ⟨#[100, 97, 116, 97]⟩ ∧ kindN n = (x : Nat)) (w : World) (hm : HasAt w b ob m) (hk : RowAt w c oc k) :
    Calls Try.prog 46 #[.pointer (some ⟨b, ob, none⟩), .pointer (some ⟨c, oc, none⟩), .int .i64 n] w fun e w' => Written (k.putData x (m.of x) (m.text x)) true e ∧ Below w.heap.size w w' := by
  have hkh := hide hk.has
  obtain ⟨cs, big, tb, hh, hle, hcb, hi⟩ := hk
  have z := zero_img.1
  have hT := hide (Two.start w zeroCells zeroCells)
  have hlb := hm.lt
  have hlc : c < w.heap.size := (Array.getElem?_eq_some_iff.1 hh).1
  have H1 := hide (show ((w.alloc (.cells zeroCells 34)).heap[c]? = some (.cells big tb)) by rw [Below.heap_alloc _ _ _ (by omega)]; exact hh)
  have hz := hide (show zeroCells.size = cs.size by rw [hi.size]; exact size_newTo 0)
  go_enter Try.func46, Try.ntmps46
  go_wp2_with (first | (refine wpList_load_part rfl 34 _ rfl c oc 94 rfl tb big _ (unhide H1) img_under rfl zero_img.2 hle ?_; rw [hcb]) | (refine wpList_store_row rfl 34 _ _ rfl (w.heap.size + 1) cs rfl rfl 34 zeroCells (unhide hT).b1 (img_info hi.size) (unhide hz) hi.all ?_))
  have hT2 := hide ((unhide hT).row cs)
  clear hT H1 hz
  generalize ((w.alloc (.cells zeroCells 34)).alloc (.cells zeroCells 34)).setRow (w.heap.size + 1) cs = X at hT2 ⊢
  refine (blockOf_any _ _).mono ?_
  rw [hn.1, hn.2]
  rintro e w1 ⟨rfl, e1⟩
  rw [e1]
  clear e1 w1
  have h1 := (hm.below (unhide hT2).below hlb).of x hx
  have h2 := (hm.below (unhide hT2).below hlb).text x hx
  obtain ⟨v0, f0⟩ := (unhide hT2).cell (i := 76 + x * 2) (by rw [hi.size]; omega)
  obtain ⟨v1, f1⟩ := (unhide hT2).cell (i := 76 + x * 2 + 1) (by rw [hi.size]; omega)
  have fz := (unhide hT2).frozen
  have hT3 := hide (((unhide hT2).set (76 + x * 2) (.int .i64 (m.of x))).set (76 + x * 2 + 1) (.string (m.text x)))
  have hi3 := hi.putData hx (m.of x) (m.text x) (hm.short x)
  unfold put2v at hi3
  obtain ⟨c3, e3⟩ : ∃ c3, c3 = (cs.setIfInBounds (76 + x * 2) (.int .i64 (m.of x))).setIfInBounds (76 + x * 2 + 1) (.string (m.text x)) := ⟨_, rfl⟩
  rw [← e3] at hT3 hi3
  clear e3
  go_wp2_with (first | (refine wpList_load_row rfl 34 _ rfl (w.heap.size + 1) rfl 34 c3 (0, 0) _ (unhide hT3).b1 img_under rfl (img_info hi3.size) ?_) | (refine wpList_store_row rfl 34 _ _ rfl w.heap.size c3 rfl rfl 34 zeroCells (unhide hT3).b0 (img_info hi3.size) (by rw [hi3.size]; exact size_newTo 0) hi3.all ?_))
  refine bodyPost_ret (v := .tuple #[.agg c3, .bool true]) ?_ rfl ⟨⟨c3, rfl, hi3⟩, below_setRow (unhide hT3).below (Nat.le_refl _) _⟩
  exact results_row_tmp (P := Try.prog) Try.results46 _ _ w.heap.size 34 c3 (0, 0) _ _ rfl rfl (setRow_heap _ _ _ _ _ _ (unhide hT3).b0) img_under rfl (img_info hi3.size)
theorem rWrite_any {ob oc : Nat} (b c : Nat) (m k : Img) (n : Int) (w : World) (hm : HasAt w b ob m) (hk : RowAt w c oc k) :
    Calls Try.prog 46 #[.pointer (some ⟨b, ob, none⟩), .pointer (some ⟨c, oc, none⟩), .int .i64 n] w fun e w' => Written (Img.write m k n) (Img.inB n) e ∧ Below w.heap.size w w' := by
  rcases Img.blocks n with h | ⟨q, hq, rfl⟩ | ⟨d, hd, rfl⟩ | ⟨x, hx, rfl⟩
  · rw [Img.write_out h, h]; exact rWrite_out b c m k n h w hm hk
  · rw [Img.write_ino hq, show Img.inB (q : Int) = true by simp [Img.inB]; omega]
    exact rWrite_ino b c m k (q * 4) (by omega) _ ⟨(kind_ino hq).1, by rw [(kind_ino hq).2]; omega⟩ w hm hk
  · rw [Img.write_dir hd, show Img.inB ((d + 2 : Nat) : Int) = true by simp [Img.inB]; omega]
    exact rWrite_dir b c m k d hd _ (kind_dir hd) w hm hk
  · rw [Img.write_data hx, show Img.inB ((x + 5 : Nat) : Int) = true by simp [Img.inB]; omega]
    exact rWrite_data b c m k x hx _ (kind_data hx) w hm hk
end Go.Proofs.Ytgipceeheohafab
