/-
  Files in memory, and what is stored into them.
-/
import Derived.Test.YtfpfpnhpbnnmfadGreatDoorXap
namespace Go.Proofs.YtfpfpnhpbnnmfadGreatDoor
open Go.RowKit
/-- files that are being changed: what lay there ahead is as it was, but for their two blocks -/
structure Fm (w0 w : World) (bf bc : Nat) (rows : Array Value) (last : Int) : Prop where
  root : w.heap[bf]? = some (.cells #[.pointer (some ⟨bc, 0, none⟩), .int .i64 last] 114)
  row : w.heap[bc]? = some (.cells rows 141)
  ne : bf ≠ bc
  chg : Idl.Chg (fun i => i = bf ∨ i = bc) w0 w
section
variable {w0 w w' : World} {bf bc : Nat} {cs ds rows : Array Value} {m k : Img} {last : Int}
theorem Fl.fm (h : Fl w bf bc cs ds m k last) : Fm w w bf bc (cs ++ ds) last := ⟨h.root, h.row, h.ne, ⟨rfl, rfl, rfl, Nat.le_refl _, fun _ _ _ => rfl⟩⟩
theorem Fm.fl (h : Fm w0 w bf bc (cs ++ ds) last) (h1 : IsImg cs m) (h2 : IsImg ds k) : Fl w bf bc cs ds m k last := ⟨h.root, h.row, h1, h2, h.ne⟩
theorem Fm.flt (h : Fm w0 w bf bc rows last) : bf < w.heap.size := (Array.getElem?_eq_some_iff.1 h.root).1
theorem Fm.clt (h : Fm w0 w bf bc rows last) : bc < w.heap.size := (Array.getElem?_eq_some_iff.1 h.row).1
theorem Fm.ptr (h : Fm w0 w bf bc rows last) : w.cell? ⟨bf, 0, none⟩ = some (.pointer (some ⟨bc, 0, none⟩)) := by rw [cell_of_row w bf 0 _ _ _ h.root]; rfl
theorem Fm.lst (h : Fm w0 w bf bc rows last) : w.cell? ⟨bf, 1, none⟩ = some (.int .i64 last) := by rw [cell_of_row w bf 1 _ _ _ h.root]; rfl
theorem Fm.frozen (h : Fm w0 w bf bc rows last) (j : Nat) : w.frozen? ⟨bc, j, none⟩ = false := frozen_of_row w bc j _ _ h.row
theorem Fm.frozenF (h : Fm w0 w bf bc rows last) (j : Nat) : w.frozen? ⟨bf, j, none⟩ = false := frozen_of_row w bf j _ _ h.root
theorem Fm.call (h : Fm w0 w bf bc rows last) (hb : Below w.heap.size w w') : Fm w0 w' bf bc rows last :=
  ⟨by rw [hb.block _ h.flt]; exact h.root, by rw [hb.block _ h.clt]; exact h.row, h.ne, h.chg.trans (Idl.Chg.of_below (own := fun i => i = bf ∨ i = bc) hb) (fun i hi => .inl hi)⟩
theorem Fm.set (h : Fm w0 w bf bc rows last) (o : Nat) (v : Value) : Fm w0 (w.setCell ⟨bc, o, none⟩ v) bf bc (rows.setIfInBounds o v) last := by
  have hoth : ∀ i, i ≠ bc → (w.setCell ⟨bc, o, none⟩ v).heap[i]? = w.heap[i]? := fun i hi => Below.heap_setCell _ _ _ _ hi
  have hsz : (w.setCell ⟨bc, o, none⟩ v).heap.size = w.heap.size := by simp [World.setCell]
  refine ⟨by rw [hoth _ h.ne]; exact h.root, ?_, h.ne, h.chg.trans (own' := fun i => i = bc) ⟨rfl, rfl, rfl, by rw [hsz]; exact Nat.le_refl _, fun i _ hn => hoth i hn⟩ (fun i hi => .inl (.inr hi))⟩
  rw [setCell_eq_setRow w bc o _ _ _ v h.row, setRow_heap w bc _ _ _ _ h.row]
theorem Fm.setLast (h : Fm w0 w bf bc rows last) (v : Int) : Fm w0 (w.setCell ⟨bf, 1, none⟩ (.int .i64 v)) bf bc rows v := by
  have hoth : ∀ i, i ≠ bf → (w.setCell ⟨bf, 1, none⟩ (.int .i64 v)).heap[i]? = w.heap[i]? := fun i hi => Below.heap_setCell _ _ _ _ hi
  have hsz : (w.setCell ⟨bf, 1, none⟩ (.int .i64 v)).heap.size = w.heap.size := by simp [World.setCell]
  refine ⟨?_, by rw [hoth _ (Ne.symm h.ne)]; exact h.row, h.ne, h.chg.trans (own' := fun i => i = bf) ⟨rfl, rfl, rfl, by rw [hsz]; exact Nat.le_refl _, fun i _ hn => hoth i hn⟩ (fun i hi => .inl (.inl hi))⟩
  rw [setCell_eq_setRow w bf 1 _ _ _ _ h.root, setRow_heap w bf _ _ _ _ h.root]
  rfl
theorem app_set (h : cs.size = 94) {o : Nat} (ho : o < 94) (v : Value) : (cs ++ ds).setIfInBounds o v = cs.setIfInBounds o v ++ ds := by
  refine Array.ext_getElem? fun i => ?_
  rw [Array.getElem?_setIfInBounds, Array.getElem?_append, Array.getElem?_append, Array.size_setIfInBounds, Array.getElem?_setIfInBounds]
  by_cases e : o = i
  · subst e
    rw [if_pos rfl, Array.size_append, if_pos (by omega), if_pos (by omega), if_pos rfl, if_pos (by omega)]
  · rw [if_neg e, if_neg e]
theorem Fm.put (h : Fm w0 w bf bc (cs ++ ds) last) (hs : cs.size = 94) {o : Nat} (ho : o < 94) (v : Value) : Fm w0 (w.setCell ⟨bc, o, none⟩ v) bf bc (cs.setIfInBounds o v ++ ds) last := by
  rw [← app_set hs ho]; exact h.set o v
/-- a part of an inode is put: one cell -/
theorem IsImg.putPart (h : IsImg cs m) {n p : Nat} (hn : n < 8) (hp : p < 2) (v : Int) : IsImg (cs.setIfInBounds (n * 5 + 3 + p) (.int .i64 v)) (m.setPart n p v) := by
  have e : cs.setIfInBounds (n * 5 + 3 + p) (.int .i64 v) = put5v cs n ⟨m.live n, m.stamp n, m.links n, if p = 0 then v else m.part n 0, if p = 1 then v else m.part n 1⟩ := by
    have hs := h.size
    refine Array.ext_getElem? fun j => ?_
    unfold put5v
    rw [set5_get (by omega), Array.getElem?_setIfInBounds]
    have h0 := h.live n hn
    have h1 := h.stamp n hn
    have h2 := h.links n hn
    have h3 := h.part n 0 hn (by omega)
    have h4 := h.part n 1 hn (by omega)
    have hp' : p = 0 ∨ p = 1 := by omega
    by_cases j0 : j = n * 5
    · subst j0; rw [if_neg (by omega), if_pos rfl, h0]
    · by_cases j1 : j = n * 5 + 1
      · subst j1; rw [if_neg (by omega), if_neg (by omega), if_pos rfl, h1]
      · by_cases j2 : j = n * 5 + 2
        · subst j2; rw [if_neg (by omega), if_neg (by omega), if_neg (by omega), if_pos rfl, h2]
        · by_cases j3 : j = n * 5 + 3
          · subst j3
            rw [if_neg (by omega : ¬ n * 5 + 3 = n * 5), if_neg (by omega : ¬ n * 5 + 3 = n * 5 + 1), if_neg (by omega : ¬ n * 5 + 3 = n * 5 + 2), if_pos (rfl : n * 5 + 3 = n * 5 + 3)]
            rcases hp' with rfl | rfl
            · rw [if_pos rfl, if_pos (by omega)]; rfl
            · rw [if_neg (by omega)]; exact h3
          · by_cases j4 : j = n * 5 + 4
            · subst j4
              rw [if_neg (by omega : ¬ n * 5 + 4 = n * 5), if_neg (by omega : ¬ n * 5 + 4 = n * 5 + 1), if_neg (by omega : ¬ n * 5 + 4 = n * 5 + 2), if_neg (by omega : ¬ n * 5 + 4 = n * 5 + 3), if_pos (rfl : n * 5 + 4 = n * 5 + 4)]
              rcases hp' with rfl | rfl
              · rw [if_neg (by omega)]; exact h4
              · rw [if_pos rfl, if_pos (by omega)]; rfl
            · rw [if_neg (by omega), if_neg j0, if_neg j1, if_neg j2, if_neg j3, if_neg j4]
  rw [e]
  exact h.putIno hn _
theorem IsImg.putLinks (h : IsImg cs m) {n : Nat} (hn : n < 8) (v : Int) : IsImg (cs.setIfInBounds (n * 5 + 2) (.int .i64 v)) (m.putIno n ⟨m.live n, m.stamp n, v, m.part n 0, m.part n 1⟩) := by
  have e : cs.setIfInBounds (n * 5 + 2) (.int .i64 v) = put5v cs n ⟨m.live n, m.stamp n, v, m.part n 0, m.part n 1⟩ := by
    have hs := h.size
    refine Array.ext_getElem? fun j => ?_
    unfold put5v
    rw [set5_get (by omega), Array.getElem?_setIfInBounds]
    have h0 := h.live n hn
    have h1 := h.stamp n hn
    have h3 := h.part n 0 hn (by omega)
    have h4 := h.part n 1 hn (by omega)
    by_cases j0 : j = n * 5
    · subst j0; rw [if_neg (by omega), if_pos rfl, h0]
    · by_cases j1 : j = n * 5 + 1
      · subst j1; rw [if_neg (by omega), if_neg (by omega), if_pos rfl, h1]
      · by_cases j2 : j = n * 5 + 2
        · subst j2; rw [if_pos rfl, if_pos (by omega), if_neg (by omega), if_neg (by omega), if_pos rfl]
        · by_cases j3 : j = n * 5 + 3
          · subst j3; rw [if_neg (by omega), if_neg (by omega), if_neg (by omega), if_neg (by omega), if_pos rfl]; exact h3
          · by_cases j4 : j = n * 5 + 4
            · subst j4; rw [if_neg (by omega), if_neg (by omega), if_neg (by omega), if_neg (by omega), if_neg (by omega), if_pos rfl]; exact h4
            · rw [if_neg (by omega), if_neg j0, if_neg j1, if_neg j2, if_neg j3, if_neg j4]
  rw [e]
  exact h.putIno hn _
end
end Go.Proofs.YtfpfpnhpbnnmfadGreatDoor
namespace Go.Proofs.YtfpfpnhpbnnmfadGreatDoor
open Go.RowKit
open Idl (Stp chk stpA)
theorem stp_box (w : World) (x : Stp) (W : World) (bW : Below (w.alloc (.cells (stpA x) 84)).heap.size (w.alloc (.cells (stpA x) 84)) W) (j : Nat) (v : Value) (hj : (stpA x)[j]? = some v) : W.cell? ⟨w.heap.size, j, none⟩ = some v := by
  rw [bW.cell (p := ⟨w.heap.size, j, none⟩) (by simp), World.cell?_alloc_at _ _ _ _ rfl]; exact hj
theorem scheck_is {kind i1 i2 code : Int} (h : code = if kind = 1 then (if 0 ≤ i1 then 4 else 0) else if i1 < 0 then 5 else if (kind = 2 ∨ kind = 4) ∧ 0 ≤ i2 then 4 else 0) :
    (0 ≤ i1 → kind - 1 = 0 → code = 4) ∧ (i1 < 0 → kind - 1 = 0 → code = 0) ∧ (i1 < 0 → kind - 1 ≠ 0 → code = 5) ∧ (0 ≤ i1 → 0 ≤ i2 → (kind - 2) * (kind - 4) = 0 → code = 4) ∧ (0 ≤ i1 → i2 < 0 → kind - 1 ≠ 0 → code = 0) ∧ (0 ≤ i1 → kind - 1 ≠ 0 → kind - 2 ≠ 0 → kind - 4 ≠ 0 → code = 0) := by
  refine ⟨fun a b => ?_, fun a b => ?_, fun a b => ?_, fun a b c => ?_, fun a b c => ?_, fun a b c d => ?_⟩
  · rw [h, if_pos (by omega), if_pos a]
  · rw [h, if_pos (by omega), if_neg (by omega)]
  · rw [h, if_neg (by omega), if_pos a]
  · have : kind = 2 ∨ kind = 4 := by
      rcases Int.mul_eq_zero.1 c with z | z
      · left; omega
      · right; omega
    rw [h, if_neg (by omega), if_neg (by omega), if_pos ⟨this, b⟩]
  · rw [h, if_neg (by omega), if_neg (by omega), if_neg (by omega)]
  · rw [h, if_neg (by omega), if_neg (by omega), if_neg (by omega)]
section
variable {w : World} {bf bc : Nat} {cs ds : Array Value} {m k : Img} {last : Int}
set_option maxHeartbeats 2000000 in
set_option maxRecDepth 100000 in
theorem scheck_any (h : Fl w bf bc cs ds m k last) (x : Stp) (hn : x.name.size ≤ maxLen) (ht : x.to.size ≤ maxLen) (hx : x.text.size ≤ maxLen) :
    Calls Tryz.prog 112 #[.pointer (some ⟨bf, 0, none⟩), .agg (stpA x)] w fun e w' => e = .returned (.int .i64 (Img.scheck m x)) ∧ Below w.heap.size w w' := by
  have BEL := hide (show Below w.heap.size w (w.alloc (.cells (stpA x) 84)) from (Below.refl _ w).alloc (Nat.le_refl _) _)
  have C1 := hide (Idl.Check_any x hn ht hx (w.alloc (.cells (stpA x) 84)))
  have HC := hide fun W bW => stp_box w x W bW
  have HF := hide fun W (bW : Below w.heap.size w W) => fun d s => sfind_any (h.below bW) d s
  clear h
  by_cases hk : chk x = 0
  · rw [hk] at C1
    have e0 : Img.scheck m x = if x.kind = 1 then (if 0 ≤ Img.inoOf m x.dir x.name then 4 else 0)
      else if Img.inoOf m x.dir x.name < 0 then 5
      else if (x.kind = 2 ∨ x.kind = 4) ∧ 0 ≤ Img.inoOf m x.toDir x.to then 4 else 0 := by unfold Img.scheck; rw [if_neg (by rw [hk]; simp)]
    have E0 := hide (scheck_is e0)
    have F1 := hide fun W (bW : Below w.heap.size w W) => unhide HF W bW x.dir x.name
    have F2 := hide fun W (bW : Below w.heap.size w W) => unhide HF W bW x.toDir x.to
    clear HF e0 hk
    generalize Img.scheck m x = code at E0 ⊢
    generalize Img.inoOf m x.dir x.name = i1 at E0 F1
    generalize Img.inoOf m x.toDir x.to = i2 at E0 F2
    obtain ⟨kind, dir, toDir, p, name, tu, text⟩ := x
    try dsimp only at E0 F1 F2
    have hki : kind = 1 ∨ kind = 2 ∨ kind = 4 ∨ ((kind == 1) = false ∧ (kind == 2) = false ∧ (kind == 4) = false ∧ (kind != 1) = true) := by
      by_cases h1 : kind = 1
      · exact .inl h1
      · by_cases h2 : kind = 2
        · exact .inr (.inl h2)
        · by_cases h4 : kind = 4
          · exact .inr (.inr (.inl h4))
          · exact .inr (.inr (.inr ⟨by simpa using h1, by simpa using h2, by simpa using h4, by simpa using h1⟩))
    have ht1 : (decide (i1 ≥ 0) = true ∧ decide (0 ≤ i1) = true ∧ Hid (0 ≤ i1 ∧ ¬ i1 < 0)) ∨ (decide (i1 ≥ 0) = false ∧ decide (0 ≤ i1) = false ∧ Hid (i1 < 0 ∧ ¬ 0 ≤ i1)) := by
      by_cases h : 0 ≤ i1
      · exact .inl ⟨by simpa using h, by simpa using h, hide ⟨h, by omega⟩⟩
      · exact .inr ⟨by simpa using h, by simpa using h, hide ⟨by omega, h⟩⟩
    have ht2 : (decide (i2 ≥ 0) = true ∧ decide (0 ≤ i2) = true ∧ Hid (0 ≤ i2 ∧ ¬ i2 < 0)) ∨ (decide (i2 ≥ 0) = false ∧ decide (0 ≤ i2) = false ∧ Hid (i2 < 0 ∧ ¬ 0 ≤ i2)) := by
      by_cases h : 0 ≤ i2
      · exact .inl ⟨by simpa using h, by simpa using h, hide ⟨h, by omega⟩⟩
      · exact .inr ⟨by simpa using h, by simpa using h, hide ⟨by omega, h⟩⟩
    rcases hki with rfl | rfl | rfl | ⟨k1, k2, k4, k5⟩
    all_goals
      go_enter Tryz.func112, Tryz.ntmps112
      go_wp2_with fail
      refine (unhide C1).mono ?_
      rintro e w1 ⟨rfl, bel⟩
      have B1 := hide ((unhide BEL).trans (bel.mono (by simp)))
      have c0 := unhide HC w1 bel 0 _ rfl
      have c1 := unhide HC w1 bel 1 _ rfl
      have c2 := unhide HC w1 bel 2 _ rfl
      have c4 := unhide HC w1 bel 4 _ rfl
      have c5 := unhide HC w1 bel 5 _ rfl
      clear bel
      go_wp2_with fail
      refine (unhide F1 _ (unhide B1)).mono ?_
      rintro e w2 ⟨rfl, e9⟩
      rw [e9]
      clear e9 w2
    · rcases ht1 with ⟨t1, t2, t3⟩ | ⟨t1, t2, t3⟩
      all_goals
        go_wp2_with fail
        go_ret
        refine ⟨ret_int ?_, unhide B1⟩
        have t4 := unhide t3
        have z := unhide E0
        first | exact (z.1 t4.1 (by decide)).symm | exact (z.2.1 t4.1 (by decide)).symm
    · rcases ht1 with ⟨t1, t2, t3⟩ | ⟨t1, t2, t3⟩
      · rcases ht2 with ⟨s1, s2, s3⟩ | ⟨s1, s2, s3⟩
        all_goals
          go_wp2_with fail
          refine (unhide F2 _ (unhide B1)).mono ?_
          rintro e w2 ⟨rfl, e9⟩
          rw [e9]
          clear e9 w2
          go_wp2_with fail
          go_ret
          refine ⟨ret_int ?_, unhide B1⟩
          have t4 := unhide t3
          have s4 := unhide s3
          have z := unhide E0
          first | exact (z.2.2.2.1 t4.1 s4.1 (by decide)).symm | exact (z.2.2.2.2.1 t4.1 s4.1 (by decide)).symm
      · go_wp2_with fail
        go_ret
        refine ⟨ret_int ?_, unhide B1⟩
        have t4 := unhide t3
        have z := unhide E0
        exact (z.2.2.1 t4.1 (by decide)).symm
    · rcases ht1 with ⟨t1, t2, t3⟩ | ⟨t1, t2, t3⟩
      · rcases ht2 with ⟨s1, s2, s3⟩ | ⟨s1, s2, s3⟩
        all_goals
          go_wp2_with fail
          refine (unhide F2 _ (unhide B1)).mono ?_
          rintro e w2 ⟨rfl, e9⟩
          rw [e9]
          clear e9 w2
          go_wp2_with fail
          go_ret
          refine ⟨ret_int ?_, unhide B1⟩
          have t4 := unhide t3
          have s4 := unhide s3
          have z := unhide E0
          first | exact (z.2.2.2.1 t4.1 s4.1 (by decide)).symm | exact (z.2.2.2.2.1 t4.1 s4.1 (by decide)).symm
      · go_wp2_with fail
        go_ret
        refine ⟨ret_int ?_, unhide B1⟩
        have t4 := unhide t3
        have z := unhide E0
        exact (z.2.2.1 t4.1 (by decide)).symm
    · have kk1 : kind ≠ 1 := by simpa using k1
      have kk2 : kind ≠ 2 := by simpa using k2
      have kk4 : kind ≠ 4 := by simpa using k4
      have KK := hide (And.intro kk1 (And.intro kk2 kk4))
      clear kk1 kk2 kk4
      rcases ht1 with ⟨t1, t2, t3⟩ | ⟨t1, t2, t3⟩
      · go_wp2_with fail
        go_ret
        refine ⟨ret_int ?_, unhide B1⟩
        obtain ⟨z1, z2, z4⟩ := unhide KK
        have t4 := unhide t3
        have z := unhide E0
        exact (z.2.2.2.2.2 t4.1 (by omega) (by omega) (by omega)).symm
      · go_wp2_with fail
        go_ret
        refine ⟨ret_int ?_, unhide B1⟩
        obtain ⟨z1, z2, z4⟩ := unhide KK
        have t4 := unhide t3
        have z := unhide E0
        exact (z.2.2.1 t4.1 (by omega)).symm
  · have e0 : Img.scheck m x = chk x := by unfold Img.scheck; rw [if_pos hk]
    rw [e0]
    generalize chk x = ck at C1 hk
    have u1 : (ck != 0) = true := by simpa using hk
    clear HF HC e0
    obtain ⟨kind, dir, toDir, p, name, tu, text⟩ := x
    go_enter Tryz.func112, Tryz.ntmps112
    go_wp2_with fail
    refine (unhide C1).mono ?_
    rintro e w1 ⟨rfl, bel⟩
    have B1 := hide ((unhide BEL).trans (bel.mono (by simp)))
    clear bel
    go_wp2_with fail
    go_ret
    exact ⟨rfl, unhide B1⟩
end
end Go.Proofs.YtfpfpnhpbnnmfadGreatDoor
namespace Go.Proofs.YtfpfpnhpbnnmfadGreatDoor
open Go.RowKit
open Idl (Stp chk stpA)
section
variable {w : World} {bf bc : Nat} {cs ds : Array Value} {m k : Img} {last : Int}
theorem boxed_row {w w1 : World} (hb : Below w.heap.size w w1) {ds : Array Value} : Below w.heap.size w ((w1.alloc (.cells zeroCells 78)).setRow w1.heap.size ds) ∧ Below w1.heap.size w1 ((w1.alloc (.cells zeroCells 78)).setRow w1.heap.size ds) :=
  ⟨below_setRow (hb.alloc hb.size _) hb.size _, below_setRow ((Below.refl _ _).alloc (Nat.le_refl _) _) (Nat.le_refl _) _⟩
theorem boxed_has {w1 : World} {ds : Array Value} {k : Img} (hj : IsImg ds k) : HasAt ((w1.alloc (.cells zeroCells 78)).setRow w1.heap.size ds) w1.heap.size 0 k :=
  hasAt_of (cs := ds) (setRow_heap _ _ _ _ _ _ (heap_alloc_last w1 _)) (by rw [hj.size]; omega) (by rw [Nat.zero_add, ← hj.size]; simp) hj
set_option maxHeartbeats 2000000 in
set_option maxRecDepth 100000 in
theorem noPlace_any (h : Fl w bf bc cs ds m k last) (d : Int) (s : ByteArray) :
    Calls Tryz.prog 154 #[.pointer (some ⟨bf, 0, none⟩), .int .i64 d, .string s] w fun e w' => e = .returned (.bool (Img.noPlace m k d s)) ∧ Below w.heap.size w w' := by
  have z := zero_img.1
  have C1 := hide (disk_any bc cs ds m k h.now h.disk w h.row)
  have HF := hide h
  have p0 := h.ptr
  have hlt := h.flt
  have hj := h.disk
  have C2 := hide (fun X (hX : X.heap[bc]? = some (.cells (cs ++ ds) 141)) => cSlot_any bc cs ds m k h.now h.disk d X hX)
  have C3 := hide (fun g W (hW : HasAt W g 0 k) => At.find_any g k d s W hW)
  have NP := hide (show Img.noPlace m k d s = (decide (Img.freeSlot m k d < 0) || decide (0 ≤ k.findAt d s.toList)) from rfl)
  generalize Img.noPlace m k d s = np at NP ⊢
  generalize Img.freeSlot m k d = fs at NP C2
  generalize k.findAt d s.toList = v at NP C3
  clear h
  go_enter Tryz.func154, Tryz.ntmps154
  go_wp2_with fail
  refine (unhide C1).mono ?_
  rintro e w1 ⟨rfl, b1⟩
  have B1 := hide b1
  have hz : zeroCells.size = ds.size := by rw [hj.size]; exact size_newTo 0
  clear p0 b1
  go_wp2_with (refine wpList_store_row rfl 78 _ _ rfl w1.heap.size ds rfl rfl 78 zeroCells (heap_alloc_last w1 _) (img_info hj.size) hz hj.all ?_; have HX := hide (boxed_row (unhide B1) (ds := ds)); have HK := hide (boxed_has (w1 := w1) hj); generalize (w1.alloc (.cells zeroCells 78)).setRow w1.heap.size ds = X at HX HK ⊢; have p1 := ((unhide HF).below (unhide HX).1).ptr; have l1 := ((unhide HF).below (unhide HX).1).flt)
  refine (unhide C2 X ((unhide HF).below (unhide HX).1).row).mono ?_
  rintro e w2 ⟨rfl, b2⟩
  have B2 := hide ((unhide HX).1.trans (b2.mono (unhide HX).1.size))
  have C4 := hide (unhide C3 w1.heap.size w2 ((unhide HK).below b2 (unhide HK).lt))
  clear b2 p1 l1 HX HK
  by_cases hs : fs < 0
  · have u1 : decide (fs < 0) = true := by simpa using hs
    have NQ := hide (show np = true by rw [unhide NP, u1, Bool.true_or])
    clear hs C3 C4 NP
    go_wp2_with fail
    go_ret
    exact ⟨ret_bool (unhide NQ).symm, unhide B2⟩
  · have u1 : decide (fs < 0) = false := by simpa using hs
    have NQ := hide (show np = decide (0 ≤ v) by rw [unhide NP, u1, Bool.false_or])
    clear hs C3 NP
    go_wp2_with fail
    refine (unhide C4).mono ?_
    rintro e w3 ⟨rfl, e9⟩
    rw [e9]
    clear e9 w3
    go_wp2_with fail
    go_ret
    exact ⟨ret_bool (by rw [unhide NQ]), unhide B2⟩
end
end Go.Proofs.YtfpfpnhpbnnmfadGreatDoor
