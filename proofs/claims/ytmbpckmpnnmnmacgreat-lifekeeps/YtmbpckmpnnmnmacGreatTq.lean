/-
  The walk of eiderdownref.EntryAs.
-/
import Derived.Test.YtmbpckmpnnmnmacGreatTo
import Derived.RegionTactic
import Derived.BigRegion
import Derived.ChangeAlike
namespace Go.Proofs.YtmbpckmpnnmnmacGreat
open Go.RowKit
set_option maxHeartbeats 2000000 in
theorem rEntry_same (b c : Nat) (m k : Img) (d s : Nat) (hd : d < 3) (hs : s < 4) (w : World) (hm : HasImg w b m) (hk : HasImg w c k) (h : Img.sameEnt m k d s = true) :
    Calls Tryz.prog 104 #[.pointer (some ⟨b, 0, none⟩), .pointer (some ⟨c, 0, none⟩), .int .i64 d, .int .i64 s] w fun e w' => e = .returned (entV (Img.entryAs m k d s)) ∧ Below w.heap.size w w' := by
  have E := hide (show Img.entryAs m k d s = m.entry d s by unfold Img.entryAs; rw [if_pos h, Img.sameEnt_eq h])
  have hlb := hm.lt
  have hlc := hk.lt
  have q := eqEnt (m.name d s) (m.ino d s) (m.est d s) (k.name d s) (k.ino d s) (k.est d s)
  rw [show ((m.name d s).toList == (k.name d s).toList && m.ino d s == k.ino d s && m.est d s == k.est d s) = _ from h] at q
  clear h
  have hA := hide (Ents.ab w (m.entry d s) (k.entry d s))
  have hB := hide (Ents.ba w (m.entry d s) (k.entry d s))
  have hb1 : Below w.heap.size w (w.alloc (.cells (entC Ent.none) 37)) := (Below.refl _ _).alloc (Nat.le_refl _) _
  have hm1 := hm.below hb1 hlb
  have hk1 := hk.below hb1 hlc
  clear hb1
  simp only [entC, Ent.none, Img.entry] at hA hB hm1 hk1
  go_enter Tryz.func104, Tryz.ntmps104
  go_wp2_with fail
  have n1 := hm1.name d s hd hs
  have i1 := hm1.ino d s hd hs
  have s1 := hm1.est d s hd hs
  have n2 := hk1.name d s hd hs
  have i2 := hk1.ino d s hd hs
  have s2 := hk1.est d s hd hs
  have hlb1 := hm1.lt
  have hlc1 := hk1.lt
  generalize w.alloc (.cells #[.string ⟨#[]⟩, .int .i64 0, .int .i64 0] 37) = W at *
  go_region
  all_goals
    clear n1 i1 s1 n2 i2 s2 hlb1 hlc1 hm1 hk1
    first
      | (clear hB; generalize (((W.alloc (.cells #[.string (m.name d s), .int .i64 (m.ino d s), .int .i64 (m.est d s)] 37)).alloc (.cells #[.string (k.name d s), .int .i64 (k.ino d s), .int .i64 (k.est d s)] 37)).drew) = X at hA ⊢; generalize W.heap.size + 1 = g2 at hA ⊢; generalize W.heap.size = g1 at hA ⊢; clear W)
      | (clear hA; have hA := hB; clear hB; generalize (((W.alloc (.cells #[.string (k.name d s), .int .i64 (k.ino d s), .int .i64 (k.est d s)] 37)).alloc (.cells #[.string (m.name d s), .int .i64 (m.ino d s), .int .i64 (m.est d s)] 37)).drew) = X at hA ⊢; generalize W.heap.size + 1 = g1 at hA ⊢; generalize W.heap.size = g2 at hA ⊢; clear W)
  all_goals
    have hX : Ents w X g1 g2 (m.entry d s) (k.entry d s) Ent.none := unhide hA
    clear hA
    have HX := hide hX
    have hmX := hide (hm.below hX.below hlb)
    have hkX := hide (hk.below hX.below hlc)
    have hszX := hX.below.size
    obtain ⟨c10, c11, c12⟩ := hX.cell1
    obtain ⟨c20, c21, c22⟩ := hX.cell2
    obtain ⟨c00, c01, c02, fz⟩ := hX.cell0
    clear hX
    dsimp only [Img.entry] at c10 c11 c12 c20 c21 c22
    go_wp2_with fail
    have T := (unhide HX).ret (m.entry d s)
    rw [unhide E]
    refine bodyPost_ret (v := entV (m.entry d s)) ?_ rfl ⟨rfl, T.1⟩
    exact results_cell_row (P := Tryz.prog) Tryz.results104 _ _ w.heap.size 37 _ (0, 0) _ rfl T.2 ent_under rfl ent_info
set_option maxHeartbeats 2000000 in
theorem rEntry_go (b c : Nat) (m k : Img) (d s : Nat) (hd : d < 3) (hs : s < 4) (w : World) (hm : HasImg w b m) (hk : HasImg w c k) (h : Img.sameEnt m k d s = false) (hn : k.named d s = true) :
    Calls Tryz.prog 104 #[.pointer (some ⟨b, 0, none⟩), .pointer (some ⟨c, 0, none⟩), .int .i64 d, .int .i64 s] w fun e w' => e = .returned (entV (Img.entryAs m k d s)) ∧ Below w.heap.size w w' := by
  have E := hide (show Img.entryAs m k d s = if Img.mayGo m k (k.ino d s) = true then Ent.none else k.entry d s by unfold Img.entryAs; rw [if_neg (by rw [h]; simp), if_neg (by rw [hn]; simp)])
  have hE : (k.name d s).toList.isEmpty = false := by simpa [Img.named] using hn
  clear hn
  have hlb := hm.lt
  have hlc := hk.lt
  have q := eqEnt (m.name d s) (m.ino d s) (m.est d s) (k.name d s) (k.ino d s) (k.est d s)
  rw [show ((m.name d s).toList == (k.name d s).toList && m.ino d s == k.ino d s && m.est d s == k.est d s) = _ from h] at q
  clear h
  have hA := hide (Ents.ab w (m.entry d s) (k.entry d s))
  have hB := hide (Ents.ba w (m.entry d s) (k.entry d s))
  have hb1 : Below w.heap.size w (w.alloc (.cells (entC Ent.none) 37)) := (Below.refl _ _).alloc (Nat.le_refl _) _
  have hm1 := hm.below hb1 hlb
  have hk1 := hk.below hb1 hlc
  clear hb1
  simp only [entC, Ent.none, Img.entry] at hA hB hm1 hk1
  go_enter Tryz.func104, Tryz.ntmps104
  go_wp2_with fail
  have n1 := hm1.name d s hd hs
  have i1 := hm1.ino d s hd hs
  have s1 := hm1.est d s hd hs
  have n2 := hk1.name d s hd hs
  have i2 := hk1.ino d s hd hs
  have s2 := hk1.est d s hd hs
  have hlb1 := hm1.lt
  have hlc1 := hk1.lt
  generalize w.alloc (.cells #[.string ⟨#[]⟩, .int .i64 0, .int .i64 0] 37) = W at *
  go_region
  all_goals
    clear n1 i1 s1 n2 i2 s2 hlb1 hlc1 hm1 hk1
    first
      | (clear hB; generalize (((W.alloc (.cells #[.string (m.name d s), .int .i64 (m.ino d s), .int .i64 (m.est d s)] 37)).alloc (.cells #[.string (k.name d s), .int .i64 (k.ino d s), .int .i64 (k.est d s)] 37)).drew) = X at hA ⊢; generalize W.heap.size + 1 = g2 at hA ⊢; generalize W.heap.size = g1 at hA ⊢; clear W)
      | (clear hA; have hA := hB; clear hB; generalize (((W.alloc (.cells #[.string (k.name d s), .int .i64 (k.ino d s), .int .i64 (k.est d s)] 37)).alloc (.cells #[.string (m.name d s), .int .i64 (m.ino d s), .int .i64 (m.est d s)] 37)).drew) = X at hA ⊢; generalize W.heap.size + 1 = g1 at hA ⊢; generalize W.heap.size = g2 at hA ⊢; clear W)
  all_goals
    have hX : Ents w X g1 g2 (m.entry d s) (k.entry d s) Ent.none := unhide hA
    clear hA
    have HX := hide hX
    have hmX := hide (hm.below hX.below hlb)
    have hkX := hide (hk.below hX.below hlc)
    have hszX := hX.below.size
    obtain ⟨c10, c11, c12⟩ := hX.cell1
    obtain ⟨c20, c21, c22⟩ := hX.cell2
    obtain ⟨c00, c01, c02, fz⟩ := hX.cell0
    clear hX
    dsimp only [Img.entry] at c10 c11 c12 c20 c21 c22
    have C1 := hide (rLeads_any b m (k.ino d s) _ (unhide hmX))
    have C2 := hide (rLeads_any c k (k.ino d s) _ (unhide hkX))
    have hmg := hide (show Img.mayGo m k (k.ino d s) = (decide (1 < k.refs (k.ino d s)) || decide (m.refs (k.ino d s) = 0)) from rfl)
    have r1 := m.refs_le (k.ino d s)
    have r2 := k.refs_le (k.ino d s)
    generalize m.refs (k.ino d s) = N at C1 hmg r1
    generalize k.refs (k.ino d s) = D at C2 hmg r2
    obtain ⟨n9, hn9⟩ : ∃ n : Int, n = (N : Int) := ⟨_, rfl⟩
    obtain ⟨d9, hd9⟩ : ∃ n : Int, n = (D : Int) := ⟨_, rfl⟩
    rw [← hn9] at C1
    rw [← hd9] at C2
    have HN := hide hn9
    have HD := hide hd9
    clear hn9 hd9 r1 r2
    go_wp2_with fail
    refine (unhide C1).mono ?_
    rintro e wz ⟨rfl, ez⟩
    rw [ez]
    clear ez wz
    by_cases a1 : N = 0
    · have t1 : (n9 == 0) = true := by have := unhide HN; simp; omega
      have hg : Img.mayGo m k (k.ino d s) = true := by rw [unhide hmg, a1]; simp
      clear a1
      go_wp2_with fail
      have T := (unhide HX).ret (Ent.none)
      rw [unhide E, if_pos hg]
      refine bodyPost_ret (v := entV (Ent.none)) ?_ rfl ⟨rfl, T.1⟩
      exact results_cell_row (P := Tryz.prog) Tryz.results104 _ _ w.heap.size 37 _ (0, 0) _ rfl T.2 ent_under rfl ent_info
    · have t1 : (n9 == 0) = false := by have := unhide HN; simp; omega
      go_wp2_with fail
      refine (unhide C2).mono ?_
      rintro e wz ⟨rfl, ez⟩
      rw [ez]
      clear ez wz
      by_cases a2 : 1 < D
      · have t2 : decide (1 < d9) = true := by have := unhide HD; simp; omega
        have hg : Img.mayGo m k (k.ino d s) = true := by rw [unhide hmg, decide_eq_true a2]; rfl
        clear a1 a2
        go_wp2_with fail
        have T := (unhide HX).ret (Ent.none)
        rw [unhide E, if_pos hg]
        refine bodyPost_ret (v := entV (Ent.none)) ?_ rfl ⟨rfl, T.1⟩
        exact results_cell_row (P := Tryz.prog) Tryz.results104 _ _ w.heap.size 37 _ (0, 0) _ rfl T.2 ent_under rfl ent_info
      · have t2 : decide (1 < d9) = false := by have := unhide HD; simp; omega
        have hg : ¬ Img.mayGo m k (k.ino d s) = true := by rw [unhide hmg, decide_eq_false a1, decide_eq_false a2]; simp
        clear a1 a2
        go_wp2_with fail
        have T := (unhide HX).ret (k.entry d s)
        rw [unhide E, if_neg hg]
        refine bodyPost_ret (v := entV (k.entry d s)) ?_ rfl ⟨rfl, T.1⟩
        exact results_cell_row (P := Tryz.prog) Tryz.results104 _ _ w.heap.size 37 _ (0, 0) _ rfl T.2 ent_under rfl ent_info
end Go.Proofs.YtmbpckmpnnmnmacGreat
