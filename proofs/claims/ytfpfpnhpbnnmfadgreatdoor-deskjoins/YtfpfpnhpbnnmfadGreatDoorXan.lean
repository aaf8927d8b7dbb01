/-
  Write, of images that lie anywhere in a block.
-/
import Derived.Test.YtfpfpnhpbnnmfadGreatDoorXam
import Derived.Test.YtfpfpnhpbnnmfadGreatDoorXah
import Derived.Test.YtfpfpnhpbnnmfadGreatDoorXak
import Derived.Deep.RegionHeld
import Derived.Great.BuildSlice
namespace Go.Proofs.YtfpfpnhpbnnmfadGreatDoor
open Go.RowKit
/-- an image that fills a part of a block -/
def RowAt (w : World) (b o : Nat) (m : Img) : Prop := ∃ (cs big : Array Value) (t : TypeId), w.heap[b]? = some (.cells big t) ∧ o + 94 ≤ big.size ∧ big.extract o (o + 94) = cs ∧ IsImg cs m
theorem hasAt_of {w : World} {b o : Nat} {m : Img} {cs big : Array Value} {t : TypeId} (hh : w.heap[b]? = some (.cells big t)) (_hle : o + 94 ≤ big.size) (hc : big.extract o (o + 94) = cs) (hi : IsImg cs m) : HasAt w b o m := by
  have key : ∀ j v, j < 94 → cs[j]? = some v → w.cell? ⟨b, o + j, none⟩ = some v := fun j v hj hv => by
    rw [cell_of_row _ _ _ _ _ _ hh]
    rw [← hc, Array.getElem?_extract] at hv
    split at hv
    · exact hv
    · cases hv
  refine ⟨(Array.getElem?_eq_some_iff.1 hh).1, ?_, ?_, ?_, ?_, ?_, ?_, ?_, ?_, ?_, hi.small, hi.short⟩
  · intro n hn; exact key _ _ (by omega) (hi.live n hn)
  · intro n hn; rw [Nat.add_assoc]; exact key _ _ (by omega) (hi.stamp n hn)
  · intro n hn; rw [Nat.add_assoc]; exact key _ _ (by omega) (hi.links n hn)
  · intro n p hn hp; rw [Nat.add_assoc, Nat.add_assoc]; exact key _ _ (by omega) (by rw [← Nat.add_assoc]; exact hi.part n p hn hp)
  · intro d s hd hs; rw [Nat.add_assoc, Nat.add_assoc]; exact key _ _ (by omega) (by rw [← Nat.add_assoc]; exact hi.name d s hd hs)
  · intro d s hd hs; rw [Nat.add_assoc, Nat.add_assoc, Nat.add_assoc]; exact key _ _ (by omega) (by rw [← Nat.add_assoc, ← Nat.add_assoc]; exact hi.ino d s hd hs)
  · intro d s hd hs; rw [Nat.add_assoc, Nat.add_assoc, Nat.add_assoc]; exact key _ _ (by omega) (by rw [← Nat.add_assoc, ← Nat.add_assoc]; exact hi.est d s hd hs)
  · intro x hx; rw [Nat.add_assoc]; exact key _ _ (by omega) (hi.of x hx)
  · intro x hx; rw [Nat.add_assoc, Nat.add_assoc]; exact key _ _ (by omega) (by rw [← Nat.add_assoc]; exact hi.text x hx)
theorem RowAt.has {w : World} {b o : Nat} {m : Img} (h : RowAt w b o m) : HasAt w b o m := by
  obtain ⟨cs, big, t, h1, h2, h3, h4⟩ := h
  exact hasAt_of h1 h2 h3 h4
namespace At
set_option maxRecDepth 100000 in
set_option maxHeartbeats 2000000 in
theorem write_is_out {ob oc : Nat} (b c : Nat) (m k : Img) (n : Int) (hn : Img.inB n = false) (w : World) (hm : HasAt w b ob m) (hk : RowAt w c oc k) :
    Calls Tryz.prog 143 #[.pointer (some ⟨b, ob, none⟩), .pointer (some ⟨c, oc, none⟩), .int .i64 n] w fun e w' => Written (k) false e ∧ Below w.heap.size w w' := by
  have hkh := hide hk.has
  obtain ⟨cs, big, tb, hh, hle, hcb, hi⟩ := hk
  have z := zero_img.1
  have hT := hide (Two.start w zeroCells zeroCells)
  have hlb := hm.lt
  have hlc : c < w.heap.size := (Array.getElem?_eq_some_iff.1 hh).1
  have H1 := hide (show ((w.alloc (.cells zeroCells 78)).heap[c]? = some (.cells big tb)) by rw [Below.heap_alloc _ _ _ (by omega)]; exact hh)
  have hz := hide (show zeroCells.size = cs.size by rw [hi.size]; exact size_newTo 0)
  go_enter Tryz.func143, Tryz.ntmps143
  go_wp2_with (first | (refine wpList_load_part rfl 78 _ rfl c oc 94 rfl tb big _ (unhide H1) img_under rfl zero_img.2 hle ?_; rw [hcb]) | (refine wpList_store_row rfl 78 _ _ rfl (w.heap.size + 1) cs rfl rfl 78 zeroCells (unhide hT).b1 (img_info hi.size) (unhide hz) hi.all ?_))
  have hT2 := hide ((unhide hT).row cs)
  clear hT H1 hz
  generalize ((w.alloc (.cells zeroCells 78)).alloc (.cells zeroCells 78)).setRow (w.heap.size + 1) cs = X at hT2 ⊢
  refine (block_any _ _).mono ?_
  rw [(kind_out hn).1, (kind_out hn).2]
  rintro e w1 ⟨rfl, e1⟩
  rw [e1]
  clear e1 w1
  go_wp2_with (first | (refine wpList_load_row rfl 78 _ rfl (w.heap.size + 1) rfl 78 cs (0, 0) _ (unhide hT2).b1 img_under rfl (img_info hi.size) ?_) | (refine wpList_store_row rfl 78 _ _ rfl w.heap.size cs rfl rfl 78 zeroCells (unhide hT2).b0 (img_info hi.size) (by rw [hi.size]; exact size_newTo 0) hi.all ?_))
  refine bodyPost_ret (v := .tuple #[.agg cs, .bool false]) ?_ rfl ⟨⟨cs, rfl, hi⟩, below_setRow (unhide hT2).below (Nat.le_refl _) _⟩
  exact results_row_tmp (P := Tryz.prog) Tryz.results143 _ _ w.heap.size 78 cs (0, 0) _ _ rfl rfl (setRow_heap _ _ _ _ _ _ (unhide hT2).b0) img_under rfl (img_info hi.size)
set_option maxRecDepth 100000 in
set_option maxHeartbeats 2000000 in
theorem write_is_ino {ob oc : Nat} (b c : Nat) (m k : Img) (q : Nat) (hq : q + 4 ≤ 8) (n : Int) (hn : kindS n = ⟨#[105, 110, 111, 100, 101, 115]⟩ ∧ kindN n = (q : Nat)) (w : World) (hm : HasAt w b ob m) (hk : RowAt w c oc k) :
    Calls Tryz.prog 143 #[.pointer (some ⟨b, ob, none⟩), .pointer (some ⟨c, oc, none⟩), .int .i64 n] w fun e w' => Written (Img.wInos m k q 4) true e ∧ Below w.heap.size w w' := by
  have hkh := hide hk.has
  obtain ⟨cs, big, tb, hh, hle, hcb, hi⟩ := hk
  have z := zero_img.1
  have hT := hide (Two.start w zeroCells zeroCells)
  have hlb := hm.lt
  have hlc : c < w.heap.size := (Array.getElem?_eq_some_iff.1 hh).1
  have H1 := hide (show ((w.alloc (.cells zeroCells 78)).heap[c]? = some (.cells big tb)) by rw [Below.heap_alloc _ _ _ (by omega)]; exact hh)
  have hz := hide (show zeroCells.size = cs.size by rw [hi.size]; exact size_newTo 0)
  go_enter Tryz.func143, Tryz.ntmps143
  go_wp2_with (first | (refine wpList_load_part rfl 78 _ rfl c oc 94 rfl tb big _ (unhide H1) img_under rfl zero_img.2 hle ?_; rw [hcb]) | (refine wpList_store_row rfl 78 _ _ rfl (w.heap.size + 1) cs rfl rfl 78 zeroCells (unhide hT).b1 (img_info hi.size) (unhide hz) hi.all ?_))
  have hT2 := hide ((unhide hT).row cs)
  clear hT H1 hz
  generalize ((w.alloc (.cells zeroCells 78)).alloc (.cells zeroCells 78)).setRow (w.heap.size + 1) cs = X at hT2 ⊢
  refine (block_any _ _).mono ?_
  rw [hn.1, hn.2]
  rintro e w1 ⟨rfl, e1⟩
  rw [e1]
  clear e1 w1
  go_wp2_with fail
  go_loopw [11] (fun i wr => ∃ kk : Nat, q ≤ kk ∧ kk ≤ q + 4 ∧ i = .int .i64 kk ∧ ∃ c1, Two w wr (w.heap.size + 1) zeroCells c1 ∧ IsImg c1 (Img.wInos m k q (kk - q))) (fun i _ => q + 4 - (intOf i).toNat)
  case atStart => exact ⟨q, by omega, by omega, rfl, cs, unhide hT2, by rw [Nat.sub_self]; exact hi⟩
  case round =>
    clear hT2
    obtain ⟨kk, hq1, hq2, rfl, c1, ht, hi1⟩ := hrel
    have hT3 := hide ht
    clear ht
    by_cases hlt : kk < q + 4
    · have hm1 := hide (hm.below (unhide hT3).below hlb)
      have hk1 := hide ((unhide hkh).below (unhide hT3).below hlc)
      have hd4 : decide ((kk : Int) < (q : Int) + 4) = true := by simp; omega
      go_wp2_with fail
      refine (inode_of b c m k kk (by omega) _ (unhide hm1) (unhide hk1)).mono ?_
      rintro e w1 ⟨rfl, hb1⟩
      have hT4 := hide ((unhide hT3).call hb1)
      obtain ⟨v0, f0⟩ := (unhide hT4).cell (i := kk * 5) (by rw [hi1.size]; omega)
      obtain ⟨v1, f1⟩ := (unhide hT4).cell (i := kk * 5 + 1) (by rw [hi1.size]; omega)
      obtain ⟨v2, f2⟩ := (unhide hT4).cell (i := kk * 5 + 1 + 1) (by rw [hi1.size]; omega)
      obtain ⟨v3, f3⟩ := (unhide hT4).cell (i := kk * 5 + 1 + 1 + 1) (by rw [hi1.size]; omega)
      obtain ⟨v4, f4⟩ := (unhide hT4).cell (i := kk * 5 + 1 + 1 + 1 + 1) (by rw [hi1.size]; omega)
      have fz := (unhide hT4).frozen
      have hI := hide (hi1.putIno (n := kk) (by omega) (Img.inodeAs m k kk))
      clear hm1 hk1 hT3 hb1
      unfold inoV
      obtain ⟨I, eI⟩ : ∃ I, I = Img.inodeAs m k kk := ⟨_, rfl⟩
      rw [← eI] at hI ⊢
      go_wp2_with fail
      go_roundw
      case rel => exact ⟨kk + 1, by omega, by omega, by go_num, _, ((((((unhide hT4).set _ _).set _ _).set _ _).set _ _).set _ _), by rw [Img.wInos_step hq1, ← eI]; exact unhide hI⟩
      case measure => simp [intOf]; omega
    · have e : kk = q + 4 := by omega
      subst e
      rw [Nat.add_sub_cancel_left] at hi1
      have hd4 : decide (((q + 4 : Nat) : Int) < (q : Int) + 4) = false := by simp
      go_wp2_with (first | (refine wpList_load_row rfl 78 _ rfl (w.heap.size + 1) rfl 78 c1 (0, 0) _ (unhide hT3).b1 img_under rfl (img_info hi1.size) ?_) | (refine wpList_store_row rfl 78 _ _ rfl w.heap.size c1 rfl rfl 78 zeroCells (unhide hT3).b0 (img_info hi1.size) (by rw [hi1.size]; exact size_newTo 0) hi1.all ?_))
      refine bodyPost_ret (v := .tuple #[.agg c1, .bool true]) ?_ rfl ⟨⟨c1, rfl, hi1⟩, below_setRow (unhide hT3).below (Nat.le_refl _) _⟩
      exact results_row_tmp (P := Tryz.prog) Tryz.results143 _ _ w.heap.size 78 c1 (0, 0) _ _ rfl rfl (setRow_heap _ _ _ _ _ _ (unhide hT3).b0) img_under rfl (img_info hi1.size)
set_option maxRecDepth 100000 in
set_option maxHeartbeats 2000000 in
theorem write_is_dir {ob oc : Nat} (b c : Nat) (m k : Img) (d : Nat) (hd : d < 3) (n : Int) (hn : kindS n = ⟨#[100, 105, 114]⟩ ∧ kindN n = (d : Nat)) (w : World) (hm : HasAt w b ob m) (hk : RowAt w c oc k) :
    Calls Tryz.prog 143 #[.pointer (some ⟨b, ob, none⟩), .pointer (some ⟨c, oc, none⟩), .int .i64 n] w fun e w' => Written (Img.wDir m k d 4) true e ∧ Below w.heap.size w w' := by
  have hkh := hide hk.has
  obtain ⟨cs, big, tb, hh, hle, hcb, hi⟩ := hk
  have z := zero_img.1
  have hT := hide (Two.start w zeroCells zeroCells)
  have hlb := hm.lt
  have hlc : c < w.heap.size := (Array.getElem?_eq_some_iff.1 hh).1
  have H1 := hide (show ((w.alloc (.cells zeroCells 78)).heap[c]? = some (.cells big tb)) by rw [Below.heap_alloc _ _ _ (by omega)]; exact hh)
  have hz := hide (show zeroCells.size = cs.size by rw [hi.size]; exact size_newTo 0)
  go_enter Tryz.func143, Tryz.ntmps143
  go_wp2_with (first | (refine wpList_load_part rfl 78 _ rfl c oc 94 rfl tb big _ (unhide H1) img_under rfl zero_img.2 hle ?_; rw [hcb]) | (refine wpList_store_row rfl 78 _ _ rfl (w.heap.size + 1) cs rfl rfl 78 zeroCells (unhide hT).b1 (img_info hi.size) (unhide hz) hi.all ?_))
  have hT2 := hide ((unhide hT).row cs)
  clear hT H1 hz
  generalize ((w.alloc (.cells zeroCells 78)).alloc (.cells zeroCells 78)).setRow (w.heap.size + 1) cs = X at hT2 ⊢
  refine (block_any _ _).mono ?_
  rw [hn.1, hn.2]
  rintro e w1 ⟨rfl, e1⟩
  rw [e1]
  clear e1 w1
  go_wp2_with fail
  go_loopw [40] (fun i wr => ∃ s : Nat, s ≤ 4 ∧ i = .int .i64 s ∧ ∃ c1, Two w wr (w.heap.size + 1) zeroCells c1 ∧ IsImg c1 (Img.wDir m k d s)) (fun i _ => 4 - (intOf i).toNat)
  case atStart => exact ⟨0, by omega, rfl, cs, unhide hT2, hi⟩
  case round =>
    clear hT2
    obtain ⟨s, hs, rfl, c1, ht, hi1⟩ := hrel
    have hT3 := hide ht
    clear ht
    by_cases hlt : s < 4
    · have hTd := hide ((unhide hT3).call (Below.refl _ _).drew)
      have hm1 := hide (hm.below (unhide hTd).below hlb)
      have hk1 := hide (has_of_row (unhide hTd).b1 hi1).at
      have hI := hide (hi1.putEnt hd hlt (Img.entryAs m (Img.wDir m k d s) d s) (entryAs_small hm.small hi1.small d s))
      have HI : ∃ I, I = Img.entryAs m (Img.wDir m k d s) d s := ⟨_, rfl⟩
      go_wp2_with fail
      go_region_with (go_at_call 191; refine (entry_of b (w.heap.size + 1) m (Img.wDir m k d s) d s hd hlt _ (unhide hm1) (unhide hk1)).mono ?_; rintro e w1 ⟨rfl, hb1⟩; obtain ⟨I, eI⟩ := HI; unfold entV; rw [← eI] at hI ⊢; have hT4 := hide ((unhide hTd).call hb1); obtain ⟨v0, f0⟩ := (unhide hT4).cell (i := 40 + d * 12 + s * 3) (by rw [hi1.size]; omega); obtain ⟨v1, f1⟩ := (unhide hT4).cell (i := 40 + d * 12 + s * 3 + 1) (by rw [hi1.size]; omega); obtain ⟨v2, f2⟩ := (unhide hT4).cell (i := 40 + d * 12 + s * 3 + 1 + 1) (by rw [hi1.size]; omega); have fz := (unhide hT4).frozen; clear hb1)
      all_goals
        go_wp2_with fail
        go_roundw
        case rel => exact ⟨s + 1, by omega, by go_num, _, ((((unhide hT4).set _ _).set _ _).set _ _), by rw [Img.wDir_step, ← eI]; exact unhide hI⟩
        case measure => simp [intOf]; omega
    · have e : s = 4 := by omega
      subst e
      go_wp2_with (first | (refine wpList_load_row rfl 78 _ rfl (w.heap.size + 1) rfl 78 c1 (0, 0) _ (unhide hT3).b1 img_under rfl (img_info hi1.size) ?_) | (refine wpList_store_row rfl 78 _ _ rfl w.heap.size c1 rfl rfl 78 zeroCells (unhide hT3).b0 (img_info hi1.size) (by rw [hi1.size]; exact size_newTo 0) hi1.all ?_))
      refine bodyPost_ret (v := .tuple #[.agg c1, .bool true]) ?_ rfl ⟨⟨c1, rfl, hi1⟩, below_setRow (unhide hT3).below (Nat.le_refl _) _⟩
      exact results_row_tmp (P := Tryz.prog) Tryz.results143 _ _ w.heap.size 78 c1 (0, 0) _ _ rfl rfl (setRow_heap _ _ _ _ _ _ (unhide hT3).b0) img_under rfl (img_info hi1.size)
set_option maxRecDepth 100000 in
set_option maxHeartbeats 2000000 in
theorem write_is_data {ob oc : Nat} (b c : Nat) (m k : Img) (x : Nat) (hx : x < 9) (n : Int) (hn : kindS n = ⟨#[100, 97, 116, 97]⟩ ∧ kindN n = (x : Nat)) (w : World) (hm : HasAt w b ob m) (hk : RowAt w c oc k) :
    Calls Tryz.prog 143 #[.pointer (some ⟨b, ob, none⟩), .pointer (some ⟨c, oc, none⟩), .int .i64 n] w fun e w' => Written (k.putData x (m.of x) (m.text x)) true e ∧ Below w.heap.size w w' := by
  have hkh := hide hk.has
  obtain ⟨cs, big, tb, hh, hle, hcb, hi⟩ := hk
  have z := zero_img.1
  have hT := hide (Two.start w zeroCells zeroCells)
  have hlb := hm.lt
  have hlc : c < w.heap.size := (Array.getElem?_eq_some_iff.1 hh).1
  have H1 := hide (show ((w.alloc (.cells zeroCells 78)).heap[c]? = some (.cells big tb)) by rw [Below.heap_alloc _ _ _ (by omega)]; exact hh)
  have hz := hide (show zeroCells.size = cs.size by rw [hi.size]; exact size_newTo 0)
  go_enter Tryz.func143, Tryz.ntmps143
  go_wp2_with (first | (refine wpList_load_part rfl 78 _ rfl c oc 94 rfl tb big _ (unhide H1) img_under rfl zero_img.2 hle ?_; rw [hcb]) | (refine wpList_store_row rfl 78 _ _ rfl (w.heap.size + 1) cs rfl rfl 78 zeroCells (unhide hT).b1 (img_info hi.size) (unhide hz) hi.all ?_))
  have hT2 := hide ((unhide hT).row cs)
  clear hT H1 hz
  generalize ((w.alloc (.cells zeroCells 78)).alloc (.cells zeroCells 78)).setRow (w.heap.size + 1) cs = X at hT2 ⊢
  refine (block_any _ _).mono ?_
  rw [hn.1, hn.2]
  rintro e w1 ⟨rfl, e1⟩
  rw [e1]
  clear e1 w1
  have h1 := (hm.below (unhide hT2).below hlb).of x hx
  have h2 := (hm.below (unhide hT2).below hlb).text x hx
  obtain ⟨v0, f0⟩ := (unhide hT2).cell (i := 76 + x * 2) (by rw [hi.size]; omega)
  obtain ⟨v1, f1⟩ := (unhide hT2).cell (i := 76 + x * 2 + 1) (by rw [hi.size]; omega)
  have fz := (unhide hT2).frozen
  have hT3 := hide (((unhide hT2).set (76 + x * 2) (.int .i64 (m.of x))).set (76 + x * 2 + 1) (.string (m.text x)))
  have hi3 := hi.putData hx (m.of x) (m.text x) (hm.short x)
  unfold put2v at hi3
  obtain ⟨c3, e3⟩ : ∃ c3, c3 = (cs.setIfInBounds (76 + x * 2) (.int .i64 (m.of x))).setIfInBounds (76 + x * 2 + 1) (.string (m.text x)) := ⟨_, rfl⟩
  rw [← e3] at hT3 hi3
  clear e3
  go_wp2_with (first | (refine wpList_load_row rfl 78 _ rfl (w.heap.size + 1) rfl 78 c3 (0, 0) _ (unhide hT3).b1 img_under rfl (img_info hi3.size) ?_) | (refine wpList_store_row rfl 78 _ _ rfl w.heap.size c3 rfl rfl 78 zeroCells (unhide hT3).b0 (img_info hi3.size) (by rw [hi3.size]; exact size_newTo 0) hi3.all ?_))
  refine bodyPost_ret (v := .tuple #[.agg c3, .bool true]) ?_ rfl ⟨⟨c3, rfl, hi3⟩, below_setRow (unhide hT3).below (Nat.le_refl _) _⟩
  exact results_row_tmp (P := Tryz.prog) Tryz.results143 _ _ w.heap.size 78 c3 (0, 0) _ _ rfl rfl (setRow_heap _ _ _ _ _ _ (unhide hT3).b0) img_under rfl (img_info hi3.size)
theorem write_any {ob oc : Nat} (b c : Nat) (m k : Img) (n : Int) (w : World) (hm : HasAt w b ob m) (hk : RowAt w c oc k) :
    Calls Tryz.prog 143 #[.pointer (some ⟨b, ob, none⟩), .pointer (some ⟨c, oc, none⟩), .int .i64 n] w fun e w' => Written (Img.write m k n) (Img.inB n) e ∧ Below w.heap.size w w' := by
  rcases Img.blocks n with h | ⟨q, hq, rfl⟩ | ⟨d, hd, rfl⟩ | ⟨x, hx, rfl⟩
  · rw [Img.write_out h, h]; exact write_is_out b c m k n h w hm hk
  · rw [Img.write_ino hq, show Img.inB (q : Int) = true by simp [Img.inB]; omega]
    exact write_is_ino b c m k (q * 4) (by omega) _ ⟨(kind_ino hq).1, by rw [(kind_ino hq).2]; omega⟩ w hm hk
  · rw [Img.write_dir hd, show Img.inB ((d + 2 : Nat) : Int) = true by simp [Img.inB]; omega]
    exact write_is_dir b c m k d hd _ (kind_dir hd) w hm hk
  · rw [Img.write_data hx, show Img.inB ((x + 5 : Nat) : Int) = true by simp [Img.inB]; omega]
    exact write_is_data b c m k x hx _ (kind_data hx) w hm hk
end At
end Go.Proofs.YtfpfpnhpbnnmfadGreatDoor
namespace Go.Proofs.YtfpfpnhpbnnmfadGreatDoor
open Go.RowKit
theorem foldSet_list (off : Nat) : ∀ (l : List Value) (s : Nat) (cells : Array Value), off + s + l.length ≤ cells.size → ∀ i,
    ((l.zipIdx s).foldl (fun cs (p : Value × Nat) => cs.setIfInBounds (off + p.2) p.1) cells)[i]? = if off + s ≤ i ∧ i < off + s + l.length then l[i - off - s]? else cells[i]?
  | [], s, cells, _, i => by simp; omega
  | v :: l, s, cells, h, i => by
    simp only [List.zipIdx_cons, List.foldl_cons]
    rw [foldSet_list off l (s + 1) _ (by simp at h ⊢; omega) i, Array.getElem?_setIfInBounds]
    simp only [List.length_cons] at h ⊢
    by_cases e : i = off + s
    · subst e
      rw [if_neg (by omega), if_pos rfl, if_pos (by omega), if_pos (by omega)]
      simp
    · by_cases h1 : off + (s + 1) ≤ i ∧ i < off + (s + 1) + l.length
      · rw [if_pos h1, if_pos (by omega), show i - off - s = (i - off - (s + 1)) + 1 by omega]; simp
      · rw [if_neg h1, if_neg (by omega), if_neg (by omega)]
theorem foldSet_get (vs : Array Value) (off : Nat) (cells : Array Value) (h : off + vs.size ≤ cells.size) (i : Nat) :
    (vs.zipIdx.foldl (fun cs (p : Value × Nat) => cs.setIfInBounds (off + p.2) p.1) cells)[i]? = if off ≤ i ∧ i < off + vs.size then vs[i - off]? else cells[i]? := by
  rw [← Array.foldl_toList]
  have e : vs.zipIdx.toList = vs.toList.zipIdx := by simp
  rw [e]
  have := foldSet_list off vs.toList 0 cells (by simpa using h) i
  simpa using this
theorem foldSet_size (vs : Array Value) (off : Nat) (cells : Array Value) (h : off + vs.size ≤ cells.size) : (vs.zipIdx.foldl (fun cs (p : Value × Nat) => cs.setIfInBounds (off + p.2) p.1) cells).size = cells.size := by
  have h1 : ∀ i, ((vs.zipIdx.foldl (fun cs (p : Value × Nat) => cs.setIfInBounds (off + p.2) p.1) cells)[i]?).isSome = (cells[i]?).isSome := fun i => by
    rw [foldSet_get vs off cells h i]
    split
    · rename_i z
      rw [Array.getElem?_eq_getElem (by omega), Array.getElem?_eq_getElem (by omega)]; rfl
    · rfl
  have h2 := h1 cells.size
  have h3 := h1 (vs.zipIdx.foldl (fun cs (p : Value × Nat) => cs.setIfInBounds (off + p.2) p.1) cells).size
  rw [Array.getElem?_eq_none (Nat.le_refl cells.size)] at h2
  rw [Array.getElem?_eq_none (Nat.le_refl (vs.zipIdx.foldl (fun cs (p : Value × Nat) => cs.setIfInBounds (off + p.2) p.1) cells).size)] at h3
  have h4 : ¬ (cells.size < (vs.zipIdx.foldl (fun cs (p : Value × Nat) => cs.setIfInBounds (off + p.2) p.1) cells).size) := fun z => by rw [Array.getElem?_eq_getElem z] at h2; simp at h2
  have h5 : ¬ ((vs.zipIdx.foldl (fun cs (p : Value × Nat) => cs.setIfInBounds (off + p.2) p.1) cells).size < cells.size) := fun z => by rw [Array.getElem?_eq_getElem z] at h3; simp at h3
  omega
theorem fill_cons {place : Nat → Option (Nat × Nat)} {cells vs : Array Value} {i off size : Nat} {v : Value} {rest : List (Nat × Value)} (hp : place i = some (off, size)) (hv : v.cells = vs) (h1 : vs.size = size) (h2 : off + vs.size ≤ cells.size) :
    Instr.fill place cells ((i, v) :: rest) = Instr.fill place (vs.zipIdx.foldl (fun cs (p : Value × Nat) => cs.setIfInBounds (off + p.2) p.1) cells) rest := by
  subst hv
  rw [Instr.fill, hp]
  simp only
  rw [if_neg (by simp [h1]; omega)]
theorem fill_two {z cs ds : Array Value} (hz : z.size = 188) (h1 : cs.size = 94) (h2 : ds.size = 94) : Instr.fill (fun i => #[(0, 94), (94, 94)][i]?) z [(0, .agg cs), (1, .agg ds)] = some (cs ++ ds) := by
  have s1 := foldSet_size cs 0 z (by omega)
  have s2 := foldSet_size ds 94 (cs.zipIdx.foldl (fun cs (p : Value × Nat) => cs.setIfInBounds (0 + p.2) p.1) z) (by omega)
  rw [fill_cons (i := 0) (vs := cs) (off := 0) (size := 94) rfl rfl h1 (by omega), fill_cons (i := 1) (vs := ds) (off := 94) (size := 94) rfl rfl h2 (by omega)]
  show some _ = some _
  congr 1
  refine Array.ext_getElem? fun i => ?_
  rw [foldSet_get ds 94 _ (by rw [s1]; omega), foldSet_get cs 0 z (by omega), Array.getElem?_append]
  by_cases hi : i < 94
  · rw [if_neg (by omega), if_pos (by omega), if_pos (by omega)]; simp
  · by_cases hj : i < 188
    · rw [if_pos (by omega), if_neg (by omega), h1]
    · rw [if_neg (by omega), if_neg (by omega), if_neg (by omega), Array.getElem?_eq_none (by omega), Array.getElem?_eq_none (by omega)]
theorem cache_built (parts : List (Nat × Value)) : Tryz.prog.built 141 parts = Instr.fill (fun i => #[(0, 94), (94, 94)][i]?) (zeroCells ++ zeroCells) parts := by kernel_rfl
theorem built_two {cs ds : Array Value} (h1 : cs.size = 94) (h2 : ds.size = 94) : Tryz.prog.built 141 [(0, .agg cs), (1, .agg ds)] = some (cs ++ ds) := by rw [cache_built]; exact fill_two (by kernel_rfl) h1 h2
theorem wpList_build_two {P : Program} {ops : Array Oper} {rest : List Oper} {o : Oper} {a : Act} {w : World} {Q : Exit → Act → World → Prop} (hgd : o.guard = none) (ty : TypeId) (x y : Operand) (ho : o.op = .build ty #[(0, x), (1, y)]) (cs ds es : Array Value)
    (hx : a.eval x = .agg cs) (hy : a.eval y = .agg ds) (hb : P.built ty [(0, .agg cs), (1, .agg ds)] = some es) (h : wpList P ops Q rest (a.put o.dst (.agg es)) w) : wpList P ops Q (o :: rest) a w := by
  refine wpList_buildTo hgd ty _ ho _ rfl es ?_ h
  have e : ((#[(0, x), (1, y)] : Array (Nat × Operand)).map fun (p : Nat × Operand) => (p.1, a.eval p.2)).toList = [(0, .agg cs), (1, .agg ds)] := by simp [hx, hy]
  exact (congrArg (P.built ty) e).trans hb
section
variable {cs ds : Array Value}
theorem app_fst (h1 : cs.size = 94) : (cs ++ ds).extract 0 (0 + 94) = cs := by
  rw [Nat.zero_add, ← h1]; simp
theorem app_snd (h1 : cs.size = 94) (h2 : ds.size = 94) : (cs ++ ds).extract 94 (94 + 94) = ds := by
  refine Array.ext_getElem? fun i => ?_
  rw [Array.getElem?_extract, Array.getElem?_append]
  by_cases hi : i < 94
  · rw [if_pos (by simp; omega), if_neg (by omega)]; congr 1; omega
  · rw [if_neg (by omega), Array.getElem?_eq_none (by omega)]
theorem splice_snd {es : Array Value} (h1 : cs.size = 94) (h2 : ds.size = 94) (h3 : es.size = 94) : splice (cs ++ ds) 94 es = cs ++ es := by
  refine Array.ext_getElem? fun i => ?_
  rw [splice_get (by simp; omega), Array.getElem?_append, Array.getElem?_append]
  by_cases hi : i < 94
  · rw [if_pos hi, if_pos (by omega), if_pos (by omega)]
  · by_cases hj : i < 188
    · rw [if_neg hi, if_pos (by omega), if_neg (by omega), h1]
    · rw [if_neg hi, if_neg (by omega), if_neg (by omega), if_neg (by omega), Array.getElem?_eq_none (by omega), Array.getElem?_eq_none (by omega)]
end
/-- one block is another row now; the others that were there are as they were -/
structure Mut (w w' : World) (g : Nat) (c : Array Value) (t : TypeId) : Prop where
  below : ∀ B, B ≤ g → B ≤ w.heap.size → Below B w w'
  row : w'.heap[g]? = some (.cells c t)
  old : ∀ j, j < w.heap.size → j ≠ g → w'.heap[j]? = w.heap[j]?
section
variable {w w1 w2 wr : World} {g : Nat} {c c' : Array Value} {t : TypeId} {l : List (Nat × Array Value × TypeId)}
theorem Mut.of {w3 : World} (h : Below w.heap.size w w1) (hg : g < w.heap.size) (e : w3 = w1.setRow g c') (hr : w.heap[g]? = some (.cells c t)) : Mut w w3 g c' t := by
  subst e
  refine ⟨fun B h1 h2 => below_setRow (h.mono h2) h1 _, ?_, fun j hj hne => ?_⟩
  · exact setRow_heap _ _ _ _ _ _ (by rw [h.block _ hg]; exact hr)
  · rw [setRow_other _ _ _ _ hne, h.block _ hj]
theorem Mut.refl' (hb : Below w.heap.size w w1) (hg : g < w.heap.size) (hr : w.heap[g]? = some (.cells c t)) : Mut w w1 g c t :=
  ⟨fun B _ h2 => hb.mono h2, by rw [hb.block _ hg]; exact hr, fun j hj _ => hb.block _ hj⟩
theorem Mut.size (h : Mut w w1 g c t) : w.heap.size ≤ w1.heap.size := (h.below 0 (Nat.zero_le _) (Nat.zero_le _)).size
theorem Mut.trans (h : Mut w w1 g c t) (h' : Mut w1 w2 g c' t) : Mut w w2 g c' t :=
  ⟨fun B h1 h2 => (h.below B h1 h2).trans (h'.below B h1 (Nat.le_trans h2 h.size)), h'.row, fun j hj hne => by rw [h'.old j (Nat.lt_of_lt_of_le hj h.size) hne, h.old j hj hne]⟩
theorem Mut.call (h : Mut w w1 g c t) (hg : g < w.heap.size) (hb : Below w1.heap.size w1 w2) : Mut w w2 g c t :=
  ⟨fun B h1 h2 => (h.below B h1 h2).trans (hb.mono (Nat.le_trans h2 h.size)), by rw [hb.block _ (Nat.lt_of_lt_of_le hg h.size)]; exact h.row, fun j hj hne => by rw [hb.block _ (Nat.lt_of_lt_of_le hj h.size), h.old j hj hne]⟩
end
end Go.Proofs.YtfpfpnhpbnnmfadGreatDoor
