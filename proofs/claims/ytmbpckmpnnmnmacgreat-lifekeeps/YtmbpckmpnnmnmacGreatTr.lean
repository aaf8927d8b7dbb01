/-
  The walk of eiderdownref.EntryAs where a name comes.
-/
import Derived.Test.YtmbpckmpnnmnmacGreatTq
namespace Go.Proofs.YtmbpckmpnnmnmacGreat
open Go.RowKit
set_option maxRecDepth 100000 in
set_option maxHeartbeats 8000000 in
theorem rEntry_come (b c : Nat) (m k : Img) (d s : Nat) (hd : d < 3) (hs : s < 4) (w : World) (hm : HasImg w b m) (hk : HasImg w c k) (h : Img.sameEnt m k d s = false) (hn : k.named d s = false) :
    Calls Tryz.prog 104 #[.pointer (some ⟨b, 0, none⟩), .pointer (some ⟨c, 0, none⟩), .int .i64 d, .int .i64 s] w fun e w' => e = .returned (entV (Img.entryAs m k d s)) ∧ Below w.heap.size w w' := by
  have E := hide (show Img.entryAs m k d s = if Img.mayCome k (m.ino d s) (m.est d s) = true then m.entry d s else k.entry d s by unfold Img.entryAs; rw [if_neg (by rw [h]; simp), if_pos hn])
  have hE : (k.name d s).toList.isEmpty = true := by simpa [Img.named] using hn
  clear hn
  have hlb := hm.lt
  have hlc := hk.lt
  have q := eqEnt (m.name d s) (m.ino d s) (m.est d s) (k.name d s) (k.ino d s) (k.est d s)
  rw [show ((m.name d s).toList == (k.name d s).toList && m.ino d s == k.ino d s && m.est d s == k.est d s) = _ from h] at q
  clear h
  have hA := hide (Ents.ab w (m.entry d s) (k.entry d s))
  have hB := hide (Ents.ba w (m.entry d s) (k.entry d s))
  have hb1 : Below w.heap.size w (w.alloc (.cells (entC Ent.none) 37)) := (Below.refl _ _).alloc (Nat.le_refl _) _
  have hm1 := hm.below hb1 hlb
  have hk1 := hk.below hb1 hlc
  clear hb1
  simp only [entC, Ent.none, Img.entry] at hA hB hm1 hk1
  go_enter Tryz.func104, Tryz.ntmps104
  go_wp2_with fail
  have n1 := hm1.name d s hd hs
  have i1 := hm1.ino d s hd hs
  have s1 := hm1.est d s hd hs
  have n2 := hk1.name d s hd hs
  have i2 := hk1.ino d s hd hs
  have s2 := hk1.est d s hd hs
  have hlb1 := hm1.lt
  have hlc1 := hk1.lt
  generalize w.alloc (.cells #[.string ⟨#[]⟩, .int .i64 0, .int .i64 0] 37) = W at *
  go_region
  all_goals
    clear n1 i1 s1 n2 i2 s2 hlb1 hlc1 hm1 hk1
    first
      | (clear hB; generalize (((W.alloc (.cells #[.string (m.name d s), .int .i64 (m.ino d s), .int .i64 (m.est d s)] 37)).alloc (.cells #[.string (k.name d s), .int .i64 (k.ino d s), .int .i64 (k.est d s)] 37)).drew) = X at hA ⊢; generalize W.heap.size + 1 = g2 at hA ⊢; generalize W.heap.size = g1 at hA ⊢; clear W)
      | (clear hA; have hA := hB; clear hB; generalize (((W.alloc (.cells #[.string (k.name d s), .int .i64 (k.ino d s), .int .i64 (k.est d s)] 37)).alloc (.cells #[.string (m.name d s), .int .i64 (m.ino d s), .int .i64 (m.est d s)] 37)).drew) = X at hA ⊢; generalize W.heap.size + 1 = g1 at hA ⊢; generalize W.heap.size = g2 at hA ⊢; clear W)
  all_goals
    have hX : Ents w X g1 g2 (m.entry d s) (k.entry d s) Ent.none := unhide hA
    clear hA
    have HX := hide hX
    have hmX := hide (hm.below hX.below hlb)
    have hkX := hide (hk.below hX.below hlc)
    have hszX := hX.below.size
    obtain ⟨c10, c11, c12⟩ := hX.cell1
    obtain ⟨c20, c21, c22⟩ := hX.cell2
    obtain ⟨c00, c01, c02, fz⟩ := hX.cell0
    clear hX
    dsimp only [Img.entry] at c10 c11 c12 c20 c21 c22
    by_cases h0 : m.ino d s < 0
    · have t0 : decide (m.ino d s < 0) = true := by simp; omega
      have hc : ¬ Img.mayCome k (m.ino d s) (m.est d s) = true := by unfold Img.mayCome Img.isI; simp; omega
      clear h0
      go_wp2_with fail
      have T := (unhide HX).ret (k.entry d s)
      rw [unhide E, if_neg hc]
      refine bodyPost_ret (v := entV (k.entry d s)) ?_ rfl ⟨rfl, T.1⟩
      exact results_cell_row (P := Tryz.prog) Tryz.results104 _ _ w.heap.size 37 _ (0, 0) _ rfl T.2 ent_under rfl ent_info
    have t0 : decide (m.ino d s < 0) = false := by simp; omega
    by_cases h8 : 8 ≤ m.ino d s
    · have t8 : decide (8 ≤ m.ino d s) = true := by simp; omega
      have hc : ¬ Img.mayCome k (m.ino d s) (m.est d s) = true := by unfold Img.mayCome Img.isI; simp; omega
      clear h0 h8
      go_wp2_with fail
      have T := (unhide HX).ret (k.entry d s)
      rw [unhide E, if_neg hc]
      refine bodyPost_ret (v := entV (k.entry d s)) ?_ rfl ⟨rfl, T.1⟩
      exact results_cell_row (P := Tryz.prog) Tryz.results104 _ _ w.heap.size 37 _ (0, 0) _ rfl T.2 ent_under rfl ent_info
    obtain ⟨i, hi⟩ := Int.eq_ofNat_of_zero_le (show 0 ≤ m.ino d s by omega)
    have hi8 : i < 8 := by omega
    have hmc := hide (show Img.mayCome k (m.ino d s) (m.est d s) = (k.live i && k.stamp i == m.est d s && decide ((k.refs (i : Int) : Int) < k.links i)) by
      unfold Img.mayCome; rw [hi, Int.toNat_natCast, show Img.isI (i : Int) = true by simp [Img.isI]; omega]; rfl)
    rw [hi] at c11 q t0
    have t8 : decide (8 ≤ (i : Int)) = false := by simp; omega
    have HI := hide hi
    clear h0 h8 hi
    have kl := (unhide hkX).live i hi8
    have ks := (unhide hkX).stamp i hi8
    have kn := (unhide hkX).links i hi8
    have k0 := (unhide hkX).part i 0 hi8 (by omega)
    have k1 := (unhide hkX).part i 1 hi8 (by omega)
    have lc := (unhide hkX).lt
    have l1 : g1 < X.heap.size := (Array.getElem?_eq_some_iff.1 (unhide HX).b1).1
    have ti : (i : Int) < 8 := by omega
    go_wp2_with fail
    go_region
    all_goals
      clear kl ks kn k0 k1 lc l1 c10 c11 c12 c20 c21 c22 c00 c01 c02 fz
      have H6 := hide ((unhide HX).call (((Below.refl _ _).alloc (Nat.le_refl _) (.cells #[.bool (k.live i), .int .i64 (k.stamp i), .int .i64 (k.links i), .int .i64 (k.part i 0), .int .i64 (k.part i 1)] 34)).drew))
      have j0 : ((X.alloc (.cells #[.bool (k.live i), .int .i64 (k.stamp i), .int .i64 (k.links i), .int .i64 (k.part i 0), .int .i64 (k.part i 1)] 34)).drew).cell? ⟨X.heap.size, 0, none⟩ = some (.bool (k.live i)) := World.cell?_alloc_new X #[.bool (k.live i), .int .i64 (k.stamp i), .int .i64 (k.links i), .int .i64 (k.part i 0), .int .i64 (k.part i 1)] 34 0
      have j1 : ((X.alloc (.cells #[.bool (k.live i), .int .i64 (k.stamp i), .int .i64 (k.links i), .int .i64 (k.part i 0), .int .i64 (k.part i 1)] 34)).drew).cell? ⟨X.heap.size, 1, none⟩ = some (.int .i64 (k.stamp i)) := World.cell?_alloc_new X #[.bool (k.live i), .int .i64 (k.stamp i), .int .i64 (k.links i), .int .i64 (k.part i 0), .int .i64 (k.part i 1)] 34 1
      have j2 : ((X.alloc (.cells #[.bool (k.live i), .int .i64 (k.stamp i), .int .i64 (k.links i), .int .i64 (k.part i 0), .int .i64 (k.part i 1)] 34)).drew).cell? ⟨X.heap.size, 2, none⟩ = some (.int .i64 (k.links i)) := World.cell?_alloc_new X #[.bool (k.live i), .int .i64 (k.stamp i), .int .i64 (k.links i), .int .i64 (k.part i 0), .int .i64 (k.part i 1)] 34 2
      generalize (X.alloc (.cells #[.bool (k.live i), .int .i64 (k.stamp i), .int .i64 (k.links i), .int .i64 (k.part i 0), .int .i64 (k.part i 1)] 34)).drew = X6 at H6 j0 j1 j2 ⊢
      generalize X.heap.size = gi at j0 j1 j2 ⊢
      have R := hide (fun x : Nat => Calls.quiet_of_same (rLeads_any c k (i : Int) _ (hk.below ((unhide H6).draw x).below hlc)))
      have rl := k.refs_le (i : Int)
      generalize k.refs (i : Int) = D at R hmc rl
      obtain ⟨d9, hd9⟩ : ∃ n : Int, n = (D : Int) := ⟨_, rfl⟩
      rw [← hd9] at R hmc
      clear hd9 rl
      obtain ⟨c10, c11, c12⟩ := (unhide H6).cell1
      obtain ⟨c20, c21, c22⟩ := (unhide H6).cell2
      obtain ⟨c00, c01, c02, fz⟩ := (unhide H6).cell0
      dsimp only [Img.entry] at c10 c11 c12 c20 c21 c22
      rw [unhide HI] at c11
      cases g1' : k.live i
      · have hc : ¬ Img.mayCome k (m.ino d s) (m.est d s) = true := by rw [unhide hmc, g1']; simp
        rw [g1'] at j0
        go_wp2_with fail
        go_quiet (fail)
        go_wp2_with fail
        have T := ((unhide H6).draw nq).ret (k.entry d s)
        rw [unhide E, if_neg hc]
        refine bodyPost_ret (v := entV (k.entry d s)) ?_ rfl ⟨rfl, T.1⟩
        exact results_cell_row (P := Tryz.prog) Tryz.results104 _ _ w.heap.size 37 _ (0, 0) _ rfl T.2 ent_under rfl ent_info
      · rw [g1'] at j0
        cases g2' : k.stamp i == m.est d s
        · have hc : ¬ Img.mayCome k (m.ino d s) (m.est d s) = true := by rw [unhide hmc, g2']; simp
          go_wp2_with fail
          go_quiet (fail)
          go_wp2_with fail
          have T := ((unhide H6).draw nq).ret (k.entry d s)
          rw [unhide E, if_neg hc]
          refine bodyPost_ret (v := entV (k.entry d s)) ?_ rfl ⟨rfl, T.1⟩
          exact results_cell_row (P := Tryz.prog) Tryz.results104 _ _ w.heap.size 37 _ (0, 0) _ rfl T.2 ent_under rfl ent_info
        · by_cases g3 : d9 < k.links i
          · have t9 : decide (d9 < k.links i) = true := by simpa using g3
            have hc : Img.mayCome k (m.ino d s) (m.est d s) = true := by rw [unhide hmc, g1', g2', t9]; rfl
            clear g3
            go_wp2_with fail
            go_quiet ((go_at_call 55; with_reducible exact unhide R _))
            go_wp2_with fail
            have T := ((unhide H6).draw nq).ret (⟨m.name d s, (i : Int), m.est d s⟩ : Ent)
            rw [unhide E, if_pos hc, show m.entry d s = (⟨m.name d s, (i : Int), m.est d s⟩ : Ent) from by unfold Img.entry; rw [unhide HI]]
            refine bodyPost_ret (v := entV (⟨m.name d s, (i : Int), m.est d s⟩ : Ent)) ?_ rfl ⟨rfl, T.1⟩
            exact results_cell_row (P := Tryz.prog) Tryz.results104 _ _ w.heap.size 37 _ (0, 0) _ rfl T.2 ent_under rfl ent_info
          · have t9 : decide (d9 < k.links i) = false := by simpa using g3
            have hc : ¬ Img.mayCome k (m.ino d s) (m.est d s) = true := by rw [unhide hmc, g1', g2', t9]; simp
            clear g3
            go_wp2_with fail
            go_quiet ((go_at_call 55; with_reducible exact unhide R _))
            go_wp2_with fail
            have T := ((unhide H6).draw nq).ret (k.entry d s)
            rw [unhide E, if_neg hc]
            refine bodyPost_ret (v := entV (k.entry d s)) ?_ rfl ⟨rfl, T.1⟩
            exact results_cell_row (P := Tryz.prog) Tryz.results104 _ _ w.heap.size 37 _ (0, 0) _ rfl T.2 ent_under rfl ent_info
theorem rEntry_any (b c : Nat) (m k : Img) (d s : Nat) (hd : d < 3) (hs : s < 4) (w : World) (hm : HasImg w b m) (hk : HasImg w c k) :
    Calls Tryz.prog 104 #[.pointer (some ⟨b, 0, none⟩), .pointer (some ⟨c, 0, none⟩), .int .i64 d, .int .i64 s] w fun e w' => e = .returned (entV (Img.entryAs m k d s)) ∧ Below w.heap.size w w' := by
  cases h : Img.sameEnt m k d s
  · cases hn : k.named d s
    · exact rEntry_come b c m k d s hd hs w hm hk h hn
    · exact rEntry_go b c m k d s hd hs w hm hk h hn
  · exact rEntry_same b c m k d s hd hs w hm hk h
end Go.Proofs.YtmbpckmpnnmnmacGreat
