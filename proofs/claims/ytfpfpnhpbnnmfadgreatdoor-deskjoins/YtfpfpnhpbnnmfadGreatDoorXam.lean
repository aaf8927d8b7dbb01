/-
  Inode and Entry of layer 3, of images that lie anywhere in a block.
-/
import Derived.Test.YtfpfpnhpbnnmfadGreatDoorXal
import Derived.Test.YtfpfpnhpbnnmfadGreatDoorXag
import Derived.Laws.CopyRow
namespace Go.Proofs.YtfpfpnhpbnnmfadGreatDoor
namespace At
open Go.RowKit
set_option maxHeartbeats 2000000 in
theorem inodeAs_live {ob oc : Nat} (b c : Nat) (m k : Img) (n : Nat) (hn : n < 8) (w : World) (hm : HasAt w b ob m) (hk : HasAt w c oc k) (hl : m.live n = true) :
    Calls Tryz.prog 190 #[.pointer (some ⟨b, ob, none⟩), .pointer (some ⟨c, oc, none⟩), .int .i64 n] w fun e w' => e = .returned (inoV (Img.inodeAs m k n)) ∧ Below w.heap.size w w' := by
  have E := hide (show Img.inodeAs m k n = ⟨true, m.stamp n, Img.uni m k n, Img.partAs m k n 0, Img.partAs m k n 1⟩ by unfold Img.inodeAs; rw [if_pos hl])
  have hlv := hm.live n hn
  rw [hl] at hlv
  have hst := hm.stamp n hn
  have hln := hm.links n hn
  have hp0 := hm.part n 0 hn (by omega)
  have hp1 := hm.part n 1 hn (by omega)
  have hI : Img.isI (n : Int) = true := by simp [Img.isI]; omega
  have hu := Img.uni_le m k n
  have hlb := hm.lt
  have hlc := hk.lt
  go_enter Tryz.func190, Tryz.ntmps190
  go_wp2_with (go_at_call 216; refine (sIsInode_any _ _).mono ?_; rw [hI]; rintro e w' ⟨rfl, rfl⟩)
  have hb1 : Below w.heap.size w (w.alloc (.cells #[.bool false, .int .i64 0, .int .i64 0, .int .i64 0, .int .i64 0] 68)) := (Below.refl _ _).alloc (Nat.le_refl _) _
  refine (union_any b c m k _ _ (hm.below hb1 hm.lt) (hk.below hb1 hk.lt)).mono ?_
  rintro e w1 ⟨rfl, e1⟩
  rw [e1]
  clear e1 w1
  go_wp2_with fail
  have hb2 := hb1.alloc (by simp) (.cells #[.bool true, .int .i64 (m.stamp n), .int .i64 (m.links n), .int .i64 (m.part n 0), .int .i64 (m.part n 1)] 68)
  refine wp_loop_rounds 3 ?_
  rw [rounds_succ]
  go_wp2_with fail
  refine (part_any b c m k n 0 hn (by omega) _ (hm.below hb2 hlb) (hk.below hb2 hlc)).mono ?_
  rintro e w1 ⟨rfl, q1, rfl⟩
  go_wp2_with fail
  rw [rounds_succ]
  go_wp2_with fail
  have hb3 := (belowN (n := q1) hb2).setCell (p := ⟨w.heap.size + 1, 3, none⟩) (Nat.le_succ _) (.int .i64 (Img.partAs m k n 0))
  refine (part_any b c m k n 1 hn (by omega) _ (hm.below hb3 hlb) (hk.below hb3 hlc)).mono ?_
  rintro e w1 ⟨rfl, q2, rfl⟩
  go_wp2_with fail
  rw [rounds_succ]
  go_wp2_with fail
  rw [unhide E]
  have T1 := (((((TwoT.start w 68 68 ino0 #[.bool true, .int .i64 (m.stamp n), .int .i64 (m.links n), .int .i64 (m.part n 0), .int .i64 (m.part n 1)]).draw q1).set 3 (.int .i64 (Img.partAs m k n 0))).draw q2).set 4 (.int .i64 (Img.partAs m k n 1))).set 2 (.int .i64 (Img.uni m k n : Nat))
  have T2 := T1.ret5 (.bool true) (.int .i64 (m.stamp n)) (.int .i64 (Img.uni m k n : Nat)) (.int .i64 (Img.partAs m k n 0)) (.int .i64 (Img.partAs m k n 1))
  refine bodyPost_ret (v := inoV ⟨true, m.stamp n, Img.uni m k n, Img.partAs m k n 0, Img.partAs m k n 1⟩) ?_ rfl ⟨rfl, T2.below⟩
  exact results_cell_row (P := Tryz.prog) Tryz.results190 _ _ w.heap.size 68 _ (0, 0) _ rfl T2.b0 ino_under rfl ino_info
set_option maxHeartbeats 2000000 in
theorem inodeAs_dead {ob oc : Nat} (b c : Nat) (m k : Img) (n : Nat) (hn : n < 8) (w : World) (hm : HasAt w b ob m) (hk : HasAt w c oc k) (hl : m.live n = false) :
    Calls Tryz.prog 190 #[.pointer (some ⟨b, ob, none⟩), .pointer (some ⟨c, oc, none⟩), .int .i64 n] w fun e w' => e = .returned (inoV (Img.inodeAs m k n)) ∧ Below w.heap.size w w' := by
  have hlv := hm.live n hn
  rw [hl] at hlv
  have hst := hm.stamp n hn
  have hln := hm.links n hn
  have hp0 := hm.part n 0 hn (by omega)
  have hp1 := hm.part n 1 hn (by omega)
  have klv := hk.live n hn
  have kst := hk.stamp n hn
  have kln := hk.links n hn
  have kp0 := hk.part n 0 hn (by omega)
  have kp1 := hk.part n 1 hn (by omega)
  have hI : Img.isI (n : Int) = true := by simp [Img.isI]; omega
  have hu := Img.uni_le m k n
  have hlb := hm.lt
  have hlc := hk.lt
  have hb1 : Below w.heap.size w (w.alloc (.cells #[.bool false, .int .i64 0, .int .i64 0, .int .i64 0, .int .i64 0] 68)) := (Below.refl _ _).alloc (Nat.le_refl _) _
  cases gk : k.live n
  · have E := hide (show Img.inodeAs m k n = Ino.none by unfold Img.inodeAs; rw [if_neg (by rw [hl]; simp), if_neg (by rw [gk]; simp)])
    rw [gk] at klv
    clear gk hl
    go_enter Tryz.func190, Tryz.ntmps190
    go_wp2_with (go_at_call 216; refine (sIsInode_any _ _).mono ?_; rw [hI]; rintro e w' ⟨rfl, rfl⟩)
    refine (union_any b c m k _ _ (hm.below hb1 hm.lt) (hk.below hb1 hk.lt)).mono ?_
    rintro e w1 ⟨rfl, e1⟩
    rw [e1]
    clear e1 w1
    go_wp2_with fail
    refine (free_any _).mono ?_
    rintro e w2 ⟨rfl, hb⟩
    obtain ⟨hc, hf⟩ := bcell hb
    go_wp2_with fail
    have T2 := ((TwoT.start w 68 68 ino0 _).call hb).ret5 (.bool false) (.int .i64 0) (.int .i64 0) (.int .i64 (-1)) (.int .i64 (-1))
    rw [unhide E]
    refine bodyPost_ret (v := inoV Ino.none) ?_ rfl ⟨rfl, T2.below⟩
    exact results_cell_row (P := Tryz.prog) Tryz.results190 _ _ w.heap.size 68 _ (0, 0) _ rfl T2.b0 ino_under rfl ino_info
  · rw [gk] at klv
    cases gu : (((Img.uni m k n : Nat) : Int) == 0)
    · have E := hide (show Img.inodeAs m k n = ⟨true, k.stamp n, Img.uni m k n, k.part n 0, k.part n 1⟩ by unfold Img.inodeAs; rw [if_neg (by rw [hl]; simp), if_pos ⟨gk, by simp at gu; omega⟩])
      clear gk hl
      go_enter Tryz.func190, Tryz.ntmps190
      go_wp2_with (go_at_call 216; refine (sIsInode_any _ _).mono ?_; rw [hI]; rintro e w' ⟨rfl, rfl⟩)
      refine (union_any b c m k _ _ (hm.below hb1 hm.lt) (hk.below hb1 hk.lt)).mono ?_
      rintro e w1 ⟨rfl, e1⟩
      rw [e1]
      clear e1 w1
      go_wp2_with fail
      rw [unhide E]
      have T1 := TwoT.start w 68 68 #[.bool true, .int .i64 (k.stamp n), .int .i64 (Img.uni m k n : Nat), .int .i64 (k.part n 0), .int .i64 (k.part n 1)] #[.bool true, .int .i64 (k.stamp n), .int .i64 (Img.uni m k n : Nat), .int .i64 (k.part n 0), .int .i64 (k.part n 1)]
      refine bodyPost_ret (v := inoV ⟨true, k.stamp n, Img.uni m k n, k.part n 0, k.part n 1⟩) ?_ rfl ⟨rfl, T1.below⟩
      exact results_cell_row (P := Tryz.prog) Tryz.results190 _ _ w.heap.size 68 _ (0, 0) _ rfl T1.b0 ino_under rfl ino_info
    · have E := hide (show Img.inodeAs m k n = Ino.none by unfold Img.inodeAs; rw [if_neg (by rw [hl]; simp), if_neg (fun z => z.2 (by simp at gu; omega))])
      clear gk hl
      go_enter Tryz.func190, Tryz.ntmps190
      go_wp2_with (go_at_call 216; refine (sIsInode_any _ _).mono ?_; rw [hI]; rintro e w' ⟨rfl, rfl⟩)
      refine (union_any b c m k _ _ (hm.below hb1 hm.lt) (hk.below hb1 hk.lt)).mono ?_
      rintro e w1 ⟨rfl, e1⟩
      rw [e1]
      clear e1 w1
      go_wp2_with fail
      refine (free_any _).mono ?_
      rintro e w2 ⟨rfl, hb⟩
      obtain ⟨hc, hf⟩ := bcell hb
      go_wp2_with fail
      have T2 := ((TwoT.start w 68 68 ino0 _).call hb).ret5 (.bool false) (.int .i64 0) (.int .i64 0) (.int .i64 (-1)) (.int .i64 (-1))
      rw [unhide E]
      refine bodyPost_ret (v := inoV Ino.none) ?_ rfl ⟨rfl, T2.below⟩
      exact results_cell_row (P := Tryz.prog) Tryz.results190 _ _ w.heap.size 68 _ (0, 0) _ rfl T2.b0 ino_under rfl ino_info
theorem inode_of {ob oc : Nat} (b c : Nat) (m k : Img) (n : Nat) (hn : n < 8) (w : World) (hm : HasAt w b ob m) (hk : HasAt w c oc k) :
    Calls Tryz.prog 190 #[.pointer (some ⟨b, ob, none⟩), .pointer (some ⟨c, oc, none⟩), .int .i64 n] w fun e w' => e = .returned (inoV (Img.inodeAs m k n)) ∧ Below w.heap.size w w' := by
  cases h : m.live n
  · exact inodeAs_dead b c m k n hn w hm hk h
  · exact inodeAs_live b c m k n hn w hm hk h
set_option maxHeartbeats 2000000 in
theorem entry_same {ob oc : Nat} (b c : Nat) (m k : Img) (d s : Nat) (hd : d < 3) (hs : s < 4) (w : World) (hm : HasAt w b ob m) (hk : HasAt w c oc k) (h : Img.sameEnt m k d s = true) :
    Calls Tryz.prog 191 #[.pointer (some ⟨b, ob, none⟩), .pointer (some ⟨c, oc, none⟩), .int .i64 d, .int .i64 s] w fun e w' => e = .returned (entV (Img.entryAs m k d s)) ∧ Below w.heap.size w w' := by
  have E := hide (show Img.entryAs m k d s = k.entry d s by unfold Img.entryAs; rw [if_pos h])
  have hlb := hm.lt
  have hlc := hk.lt
  have q := eqEnt (m.name d s) (m.ino d s) (m.est d s) (k.name d s) (k.ino d s) (k.est d s)
  rw [show ((m.name d s).toList == (k.name d s).toList && m.ino d s == k.ino d s && m.est d s == k.est d s) = _ from h] at q
  clear h
  have hA := hide (Ents.ab w (m.entry d s) (k.entry d s))
  have hB := hide (Ents.ba w (m.entry d s) (k.entry d s))
  have hb1 : Below w.heap.size w (w.alloc (.cells (entC Ent.none) 71)) := (Below.refl _ _).alloc (Nat.le_refl _) _
  have hm1 := hm.below hb1 hlb
  have hk1 := hk.below hb1 hlc
  clear hb1
  simp only [entC, Ent.none, Img.entry] at hA hB hm1 hk1
  go_enter Tryz.func191, Tryz.ntmps191
  go_wp2_with fail
  have n1 := hm1.name d s hd hs
  have i1 := hm1.ino d s hd hs
  have s1 := hm1.est d s hd hs
  have n2 := hk1.name d s hd hs
  have i2 := hk1.ino d s hd hs
  have s2 := hk1.est d s hd hs
  have hlb1 := hm1.lt
  have hlc1 := hk1.lt
  generalize w.alloc (.cells #[.string ⟨#[]⟩, .int .i64 0, .int .i64 0] 71) = W at *
  go_region
  all_goals
    clear n1 i1 s1 n2 i2 s2 hlb1 hlc1 hm1 hk1
    first
      | (clear hB; generalize (((W.alloc (.cells #[.string (m.name d s), .int .i64 (m.ino d s), .int .i64 (m.est d s)] 71)).alloc (.cells #[.string (k.name d s), .int .i64 (k.ino d s), .int .i64 (k.est d s)] 71)).drew) = X at hA ⊢; generalize W.heap.size + 1 = g2 at hA ⊢; generalize W.heap.size = g1 at hA ⊢; clear W)
      | (clear hA; have hA := hB; clear hB; generalize (((W.alloc (.cells #[.string (k.name d s), .int .i64 (k.ino d s), .int .i64 (k.est d s)] 71)).alloc (.cells #[.string (m.name d s), .int .i64 (m.ino d s), .int .i64 (m.est d s)] 71)).drew) = X at hA ⊢; generalize W.heap.size + 1 = g1 at hA ⊢; generalize W.heap.size = g2 at hA ⊢; clear W)
  all_goals
    have hX : Ents w X g1 g2 (m.entry d s) (k.entry d s) Ent.none := unhide hA
    clear hA
    have HX := hide hX
    have hmX := hide (hm.below hX.below hlb)
    have hkX := hide (hk.below hX.below hlc)
    have hszX := hX.below.size
    obtain ⟨c10, c11, c12⟩ := hX.cell1
    obtain ⟨c20, c21, c22⟩ := hX.cell2
    obtain ⟨c00, c01, c02, fz⟩ := hX.cell0
    clear hX
    dsimp only [Img.entry] at c10 c11 c12 c20 c21 c22
    go_wp2_with fail
    have T := (unhide HX).ret (k.entry d s)
    rw [unhide E]
    refine bodyPost_ret (v := entV (k.entry d s)) ?_ rfl ⟨rfl, T.1⟩
    exact results_cell_row (P := Tryz.prog) Tryz.results191 _ _ w.heap.size 71 _ (0, 0) _ rfl T.2 ent_under rfl ent_info
set_option maxHeartbeats 2000000 in
theorem entry_come {ob oc : Nat} (b c : Nat) (m k : Img) (d s : Nat) (hd : d < 3) (hs : s < 4) (w : World) (hm : HasAt w b ob m) (hk : HasAt w c oc k) (h : Img.sameEnt m k d s = false) (hn : k.named d s = false) :
    Calls Tryz.prog 191 #[.pointer (some ⟨b, ob, none⟩), .pointer (some ⟨c, oc, none⟩), .int .i64 d, .int .i64 s] w fun e w' => e = .returned (entV (Img.entryAs m k d s)) ∧ Below w.heap.size w w' := by
  have E := hide (show Img.entryAs m k d s = if Img.mayCome k (m.ino d s) (m.est d s) = true then m.entry d s else k.entry d s by unfold Img.entryAs; rw [if_neg (by rw [h]; simp), if_pos hn])
  have hE : (k.name d s).toList.isEmpty = true := by simpa [Img.named] using hn
  clear hn
  have hlb := hm.lt
  have hlc := hk.lt
  have q := eqEnt (m.name d s) (m.ino d s) (m.est d s) (k.name d s) (k.ino d s) (k.est d s)
  rw [show ((m.name d s).toList == (k.name d s).toList && m.ino d s == k.ino d s && m.est d s == k.est d s) = _ from h] at q
  clear h
  have hA := hide (Ents.ab w (m.entry d s) (k.entry d s))
  have hB := hide (Ents.ba w (m.entry d s) (k.entry d s))
  have hb1 : Below w.heap.size w (w.alloc (.cells (entC Ent.none) 71)) := (Below.refl _ _).alloc (Nat.le_refl _) _
  have hm1 := hm.below hb1 hlb
  have hk1 := hk.below hb1 hlc
  clear hb1
  simp only [entC, Ent.none, Img.entry] at hA hB hm1 hk1
  go_enter Tryz.func191, Tryz.ntmps191
  go_wp2_with fail
  have n1 := hm1.name d s hd hs
  have i1 := hm1.ino d s hd hs
  have s1 := hm1.est d s hd hs
  have n2 := hk1.name d s hd hs
  have i2 := hk1.ino d s hd hs
  have s2 := hk1.est d s hd hs
  have hlb1 := hm1.lt
  have hlc1 := hk1.lt
  generalize w.alloc (.cells #[.string ⟨#[]⟩, .int .i64 0, .int .i64 0] 71) = W at *
  go_region
  all_goals
    clear n1 i1 s1 n2 i2 s2 hlb1 hlc1 hm1 hk1
    first
      | (clear hB; generalize (((W.alloc (.cells #[.string (m.name d s), .int .i64 (m.ino d s), .int .i64 (m.est d s)] 71)).alloc (.cells #[.string (k.name d s), .int .i64 (k.ino d s), .int .i64 (k.est d s)] 71)).drew) = X at hA ⊢; generalize W.heap.size + 1 = g2 at hA ⊢; generalize W.heap.size = g1 at hA ⊢; clear W)
      | (clear hA; have hA := hB; clear hB; generalize (((W.alloc (.cells #[.string (k.name d s), .int .i64 (k.ino d s), .int .i64 (k.est d s)] 71)).alloc (.cells #[.string (m.name d s), .int .i64 (m.ino d s), .int .i64 (m.est d s)] 71)).drew) = X at hA ⊢; generalize W.heap.size + 1 = g1 at hA ⊢; generalize W.heap.size = g2 at hA ⊢; clear W)
  all_goals
    have hX : Ents w X g1 g2 (m.entry d s) (k.entry d s) Ent.none := unhide hA
    clear hA
    have HX := hide hX
    have hmX := hide (hm.below hX.below hlb)
    have hkX := hide (hk.below hX.below hlc)
    have hszX := hX.below.size
    obtain ⟨c10, c11, c12⟩ := hX.cell1
    obtain ⟨c20, c21, c22⟩ := hX.cell2
    obtain ⟨c00, c01, c02, fz⟩ := hX.cell0
    clear hX
    dsimp only [Img.entry] at c10 c11 c12 c20 c21 c22
    go_wp2_with fail
    refine (mayCome_any g1 c 0 k (m.ino d s) (m.est d s) _ (unhide hkX) c11 c12).mono ?_
    rintro e w1 ⟨rfl, qd, rfl⟩
    cases hc : Img.mayCome k (m.ino d s) (m.est d s)
    · go_wp2_with fail
      have T := ((unhide HX).draw qd).ret (k.entry d s)
      rw [unhide E, hc, if_neg (by simp)]
      refine bodyPost_ret (v := entV (k.entry d s)) ?_ rfl ⟨rfl, T.1⟩
      exact results_cell_row (P := Tryz.prog) Tryz.results191 _ _ w.heap.size 71 _ (0, 0) _ rfl T.2 ent_under rfl ent_info
    · go_wp2_with fail
      have T := ((unhide HX).draw qd).ret (m.entry d s)
      rw [unhide E, hc, if_pos rfl]
      refine bodyPost_ret (v := entV (m.entry d s)) ?_ rfl ⟨rfl, T.1⟩
      exact results_cell_row (P := Tryz.prog) Tryz.results191 _ _ w.heap.size 71 _ (0, 0) _ rfl T.2 ent_under rfl ent_info
set_option maxHeartbeats 2000000 in
theorem entry_go {ob oc : Nat} (b c : Nat) (m k : Img) (d s : Nat) (hd : d < 3) (hs : s < 4) (w : World) (hm : HasAt w b ob m) (hk : HasAt w c oc k) (h : Img.sameEnt m k d s = false) (hn : k.named d s = true) :
    Calls Tryz.prog 191 #[.pointer (some ⟨b, ob, none⟩), .pointer (some ⟨c, oc, none⟩), .int .i64 d, .int .i64 s] w fun e w' => e = .returned (entV (Img.entryAs m k d s)) ∧ Below w.heap.size w w' := by
  have E := hide (show Img.entryAs m k d s = if Img.mayGo m k (k.ino d s) = true then Ent.none else k.entry d s by unfold Img.entryAs; rw [if_neg (by rw [h]; simp), if_neg (by rw [hn]; simp)])
  have hE : (k.name d s).toList.isEmpty = false := by simpa [Img.named] using hn
  clear hn
  have hlb := hm.lt
  have hlc := hk.lt
  have q := eqEnt (m.name d s) (m.ino d s) (m.est d s) (k.name d s) (k.ino d s) (k.est d s)
  rw [show ((m.name d s).toList == (k.name d s).toList && m.ino d s == k.ino d s && m.est d s == k.est d s) = _ from h] at q
  clear h
  have hA := hide (Ents.ab w (m.entry d s) (k.entry d s))
  have hB := hide (Ents.ba w (m.entry d s) (k.entry d s))
  have hb1 : Below w.heap.size w (w.alloc (.cells (entC Ent.none) 71)) := (Below.refl _ _).alloc (Nat.le_refl _) _
  have hm1 := hm.below hb1 hlb
  have hk1 := hk.below hb1 hlc
  clear hb1
  simp only [entC, Ent.none, Img.entry] at hA hB hm1 hk1
  go_enter Tryz.func191, Tryz.ntmps191
  go_wp2_with fail
  have n1 := hm1.name d s hd hs
  have i1 := hm1.ino d s hd hs
  have s1 := hm1.est d s hd hs
  have n2 := hk1.name d s hd hs
  have i2 := hk1.ino d s hd hs
  have s2 := hk1.est d s hd hs
  have hlb1 := hm1.lt
  have hlc1 := hk1.lt
  generalize w.alloc (.cells #[.string ⟨#[]⟩, .int .i64 0, .int .i64 0] 71) = W at *
  go_region
  all_goals
    clear n1 i1 s1 n2 i2 s2 hlb1 hlc1 hm1 hk1
    first
      | (clear hB; generalize (((W.alloc (.cells #[.string (m.name d s), .int .i64 (m.ino d s), .int .i64 (m.est d s)] 71)).alloc (.cells #[.string (k.name d s), .int .i64 (k.ino d s), .int .i64 (k.est d s)] 71)).drew) = X at hA ⊢; generalize W.heap.size + 1 = g2 at hA ⊢; generalize W.heap.size = g1 at hA ⊢; clear W)
      | (clear hA; have hA := hB; clear hB; generalize (((W.alloc (.cells #[.string (k.name d s), .int .i64 (k.ino d s), .int .i64 (k.est d s)] 71)).alloc (.cells #[.string (m.name d s), .int .i64 (m.ino d s), .int .i64 (m.est d s)] 71)).drew) = X at hA ⊢; generalize W.heap.size + 1 = g1 at hA ⊢; generalize W.heap.size = g2 at hA ⊢; clear W)
  all_goals
    have hX : Ents w X g1 g2 (m.entry d s) (k.entry d s) Ent.none := unhide hA
    clear hA
    have HX := hide hX
    have hmX := hide (hm.below hX.below hlb)
    have hkX := hide (hk.below hX.below hlc)
    have hszX := hX.below.size
    obtain ⟨c10, c11, c12⟩ := hX.cell1
    obtain ⟨c20, c21, c22⟩ := hX.cell2
    obtain ⟨c00, c01, c02, fz⟩ := hX.cell0
    clear hX
    dsimp only [Img.entry] at c10 c11 c12 c20 c21 c22
    go_wp2_with fail
    refine (mayGo_any b c m k _ _ (unhide hmX) (unhide hkX)).mono ?_
    rintro e w1 ⟨rfl, e1⟩
    rw [e1]
    clear e1 w1
    cases hc : Img.mayGo m k (k.ino d s)
    · go_wp2_with fail
      have T := (unhide HX).ret (k.entry d s)
      rw [unhide E, hc, if_neg (by simp)]
      refine bodyPost_ret (v := entV (k.entry d s)) ?_ rfl ⟨rfl, T.1⟩
      exact results_cell_row (P := Tryz.prog) Tryz.results191 _ _ w.heap.size 71 _ (0, 0) _ rfl T.2 ent_under rfl ent_info
    · go_wp2_with fail
      have T := (unhide HX).ret Ent.none
      rw [unhide E, hc, if_pos rfl]
      refine bodyPost_ret (v := entV Ent.none) ?_ rfl ⟨rfl, T.1⟩
      exact results_cell_row (P := Tryz.prog) Tryz.results191 _ _ w.heap.size 71 _ (0, 0) _ rfl T.2 ent_under rfl ent_info
theorem entry_of {ob oc : Nat} (b c : Nat) (m k : Img) (d s : Nat) (hd : d < 3) (hs : s < 4) (w : World) (hm : HasAt w b ob m) (hk : HasAt w c oc k) :
    Calls Tryz.prog 191 #[.pointer (some ⟨b, ob, none⟩), .pointer (some ⟨c, oc, none⟩), .int .i64 d, .int .i64 s] w fun e w' => e = .returned (entV (Img.entryAs m k d s)) ∧ Below w.heap.size w w' := by
  cases h : Img.sameEnt m k d s
  · cases hn : k.named d s
    · exact entry_come b c m k d s hd hs w hm hk h hn
    · exact entry_go b c m k d s hd hs w hm hk h hn
  · exact entry_same b c m k d s hd hs w hm hk h
end At
end Go.Proofs.YtfpfpnhpbnnmfadGreatDoor
namespace Go.Proofs.YtfpfpnhpbnnmfadGreatDoor
open Go.RowKit
section
variable {P : Program}
theorem run_loadVar_part (w : World) (g o n : Nat) (t ty : TypeId) (cs : Array Value) (d : TypeDesc) (hg : w.heap[g]? = some (.cells cs t (0, 0)))
    (hu : P.underlying ty = some d) (hd : (match d with | .struct _ | .array _ _ => true | _ => false) = true) (hi : (P.info? ty).map (·.size) = some n) (hn : o + n ≤ cs.size) :
    (loadVar ty ⟨g, o, none⟩).run P w = .ok (.agg (cs.extract o (o + n))) w := by
  have hs : (cs.extract o (o + n)).size = n := by simp; omega
  have hl : (loadCells ⟨g, o, none⟩ (cs.extract o (o + n)).toList.length).run P w = .ok (cs.extract o (o + n)).toList.toArray w :=
    run_loadCells_list (P := P) w ⟨g, o, none⟩ (cs.extract o (o + n)).toList (fun j v hv => by
      have hadd : (⟨g, o, none⟩ : Addr).add j = ⟨g, o + j, none⟩ := by unfold Addr.add; split <;> simp_all
      rw [hadd, cell_of_row w g (o + j) cs t (0, 0) hg]
      have hv' : (cs.extract o (o + n))[j]? = some v := by rw [← Array.getElem?_toList]; exact hv
      rw [Array.getElem?_extract] at hv'
      split at hv'
      · exact hv'
      · cases hv')
  cases hq : P.info? ty with
  | none => simp [hq] at hi
  | some i =>
    have hsz : i.size = n := by simpa [hq] using hi
    have hagg : (isAgg ty).run P w = .ok true w := by
      unfold isAgg
      rw [Sem.run_bind, run_underlying hu w]
      cases d <;> simp_all
    rw [Array.length_toList, hs, Array.toArray_toList] at hl
    simp [loadVar, Sem.run_bind, hagg, sizeOf, typeInfo, hq, hsz, hl]
theorem wpList_load_part {ops : Array Oper} {rest : List Oper} {o : Oper} {a : Act} {w : World} {Q : Exit → Act → World → Prop} (hgd : o.guard = none) (ty : TypeId) (x : Operand) (ho : o.op = .load ty x)
    (g off n : Nat) (hx : a.eval x = .pointer (some ⟨g, off, none⟩)) (t : TypeId) (cs : Array Value) (d : TypeDesc) (hg : w.heap[g]? = some (.cells cs t (0, 0)))
    (hu : P.underlying ty = some d) (hd : (match d with | .struct _ | .array _ _ => true | _ => false) = true) (hi : (P.info? ty).map (·.size) = some n) (hn : off + n ≤ cs.size)
    (h : wpList P ops Q rest (a.put o.dst (.agg (cs.extract off (off + n)))) w) : wpList P ops Q (o :: rest) a w :=
  wpList_plain hgd fun _ hK => by
    unfold Oper.wp execOp
    simp only [ho, hx, Instr.loadAt, Instr.sureAddr, Sem.run_bind, Sem.run_pure, Result.andThen_ok, run_loadVar_part w g off n t ty cs d hg hu hd hi hn]
    exact hK _ _ h
def splice (cs : Array Value) (o : Nat) (vs : Array Value) : Array Value := (cs.toList.take o ++ vs.toList ++ cs.toList.drop (o + vs.size)).toArray
theorem run_storeVar_part (w : World) (g o : Nat) (t ty : TypeId) (old cells : Array Value) (hg : w.heap[g]? = some (.cells old t (0, 0))) (hi : (P.info? ty).map (·.size) = some cells.size)
    (ho : o + cells.size ≤ old.size) (h1 : cells.all (·.oneCell') = true) :
    (storeVar ty ⟨g, o, none⟩ (.agg cells)).run P w = .ok () (w.setRow g (splice old o cells)) := by
  have := run_storeCells_at (P := P) g o t cells.toList 0 old w hg (by simp; omega) (fun v hv => (Array.all_eq_true_iff_forall_mem.1 h1) v (by simpa using hv))
  cases hq : P.info? ty with
  | none => simp [hq] at hi
  | some i =>
    have hs : cells.size = i.size := by simp [hq] at hi; omega
    simp [storeVar, sizeOf, typeInfo, hq, Value.cells, hs, this, splice]
theorem wpList_store_part {ops : Array Oper} {rest : List Oper} {o : Oper} {a : Act} {w : World} {Q : Exit → Act → World → Prop} (hgd : o.guard = none) (ty : TypeId) (x y : Operand) (ho : o.op = .store ty x y)
    (g off : Nat) (cells : Array Value) (hx : a.eval x = .pointer (some ⟨g, off, none⟩)) (hy : a.eval y = .agg cells) (t : TypeId) (old : Array Value) (hg : w.heap[g]? = some (.cells old t (0, 0)))
    (hi : (P.info? ty).map (·.size) = some cells.size) (hold : off + cells.size ≤ old.size) (h1 : cells.all (·.oneCell') = true)
    (h : wpList P ops Q rest (a.put o.dst undef) (w.setRow g (splice old off cells))) : wpList P ops Q (o :: rest) a w :=
  wpList_plain hgd fun _ hK => by
    unfold Oper.wp execOp
    simp only [ho, hx, hy, Instr.storeAt, Instr.sureAddr, Sem.run_bind, Sem.run_pure, Result.andThen_ok, run_storeVar_part w g off t ty old cells hg hi hold h1]
    exact hK _ _ h
end
theorem splice_get {cs vs : Array Value} {o j : Nat} (h : o + vs.size ≤ cs.size) : (splice cs o vs)[j]? = if j < o then cs[j]? else if j < o + vs.size then vs[j - o]? else cs[j]? := by
  unfold splice
  rw [List.getElem?_toArray, List.append_assoc, List.getElem?_append]
  have hl : (cs.toList.take o).length = o := by simp; omega
  rw [hl]
  by_cases h1 : j < o
  · rw [if_pos h1, if_pos h1, List.getElem?_take, if_pos h1]; simp
  · rw [if_neg h1, if_neg h1, List.getElem?_append, Array.length_toList]
    by_cases h2 : j < o + vs.size
    · rw [if_pos (by omega), if_pos h2]; simp
    · rw [if_neg (by omega), if_neg h2, List.getElem?_drop, show o + vs.size + (j - o - vs.size) = j by omega]; simp
theorem dir_info : (Tryz.prog.info? 72).map (·.size) = some 12 := by kernel_rfl
end Go.Proofs.YtfpfpnhpbnnmfadGreatDoor
