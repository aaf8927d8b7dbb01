/-
  Files in memory: a cache, and the last Stamp. The walks of package soft: find, check.
-/
import Derived.Test.YtmbpckmpnnmnmabGreatZz
import Derived.Test.YtmbpckmpnnmnmabGreatYd
import Derived.Test.YtmbpckmpnnmnmabGreatYe
import Derived.Test.YtmbpckmpnnmnmabGreatQVa
import Derived.Test.YtmbpckmpnnmnmabGreatQMa
import Derived.Deep.RegionHeld
namespace Go.Proofs.YtmbpckmpnnmnmabGreat
open Go.RowKit
open Idl (Stp chk stpA)
/-- files at the block bf: their cache lies at bc; what is to be, and what lies on the disk -/
structure Fl (w : World) (bf bc : Nat) (cs ds : Array Value) (m k : Img) (last : Int) : Prop where
  root : w.heap[bf]? = some (.cells #[.pointer (some ⟨bc, 0, none⟩), .int .i64 last] 55)
  row : w.heap[bc]? = some (.cells (cs ++ ds) 57)
  now : IsImg cs m
  disk : IsImg ds k
  ne : bf ≠ bc
section
variable {w w' : World} {bf bc : Nat} {cs ds : Array Value} {m k : Img} {last : Int}
theorem Fl.flt (h : Fl w bf bc cs ds m k last) : bf < w.heap.size := (Array.getElem?_eq_some_iff.1 h.root).1
theorem Fl.clt (h : Fl w bf bc cs ds m k last) : bc < w.heap.size := (Array.getElem?_eq_some_iff.1 h.row).1
theorem Fl.keep (h : Fl w bf bc cs ds m k last) (h1 : w'.heap[bf]? = w.heap[bf]?) (h2 : w'.heap[bc]? = w.heap[bc]?) : Fl w' bf bc cs ds m k last :=
  ⟨by rw [h1]; exact h.root, by rw [h2]; exact h.row, h.now, h.disk, h.ne⟩
theorem Fl.below (h : Fl w bf bc cs ds m k last) (hb : Below w.heap.size w w') : Fl w' bf bc cs ds m k last := h.keep (hb.block _ h.flt) (hb.block _ h.clt)
theorem Fl.ptr (h : Fl w bf bc cs ds m k last) : w.cell? ⟨bf, 0, none⟩ = some (.pointer (some ⟨bc, 0, none⟩)) := by rw [cell_of_row w bf 0 _ _ _ h.root]; rfl
theorem Fl.lst (h : Fl w bf bc cs ds m k last) : w.cell? ⟨bf, 1, none⟩ = some (.int .i64 last) := by rw [cell_of_row w bf 1 _ _ _ h.root]; rfl
theorem Fl.hasNow (h : Fl w bf bc cs ds m k last) : HasAt w bc 0 m := (two_has h.now h.disk h.row 0).1
theorem Fl.hasDisk (h : Fl w bf bc cs ds m k last) : HasAt w bc 94 k := (two_has h.now h.disk h.row 0).2
end
section
variable {w : World} {bf bc : Nat} {cs ds : Array Value} {m k : Img} {last : Int}
set_option maxHeartbeats 1000000 in
set_option maxRecDepth 100000 in
theorem sfind_any (h : Fl w bf bc cs ds m k last) (d : Int) (s : ByteArray) :
    Calls Tryz.prog 55 #[.pointer (some ⟨bf, 0, none⟩), .int .i64 d, .string s] w fun e w' => e = .returned (.int .i64 (Img.inoOf m d s)) ∧ w' = w := by
  have C := hide (At.find_any bc m d s w h.hasNow)
  have p0 := h.ptr
  have flt := h.flt
  have clt := h.clt
  by_cases hf : m.findAt d s.toList < 0
  · have e1 : Img.inoOf m d s = -1 := by unfold Img.inoOf; rw [if_pos hf]
    rw [e1]
    have u1 : decide (m.findAt d s.toList < 0) = true := by simpa using hf
    generalize m.findAt d s.toList = v at C u1
    clear hf h e1
    go_enter Tryz.func55, Tryz.ntmps55
    go_wp2_with fail
    refine (unhide C).mono ?_
    rintro e w0 ⟨rfl, e9⟩
    rw [e9]
    clear e9 w0
    go_wp2_with fail
    go_ret
    exact ⟨rfl, rfl⟩
  · obtain ⟨⟨d0, d3⟩, _, j, hj, e1, _, _⟩ := Img.findAt_some (Int.not_lt.1 hf)
    obtain ⟨dd, rfl⟩ := Int.eq_ofNat_of_zero_le d0
    have e2 : Img.inoOf m (dd : Int) s = m.ino dd j := by unfold Img.inoOf; rw [if_neg hf, e1, Int.toNat_natCast, Int.toNat_natCast]
    rw [e2]
    rw [e1] at C
    have c1 := h.hasNow.ino dd j (by omega) hj
    have dz : (dd : Int) < 3 := d3
    have jz : (j : Int) < 4 := by omega
    have u1 : decide ((j : Int) < 0) = false := by simp
    generalize m.ino dd j = v at c1
    clear hf h e1 e2
    go_enter Tryz.func55, Tryz.ntmps55
    go_wp2_with fail
    refine (unhide C).mono ?_
    rintro e w0 ⟨rfl, e9⟩
    rw [e9]
    clear e9 w0
    go_wp2_with fail
    go_ret
    exact ⟨rfl, rfl⟩
end
end Go.Proofs.YtmbpckmpnnmnmabGreat
namespace Go.Proofs.YtmbpckmpnnmnmabGreat
open Go.RowKit
/-- files that are being changed: what lay there ahead is as it was, but for their two blocks -/
structure Fm (w0 w : World) (bf bc : Nat) (rows : Array Value) (last : Int) : Prop where
  root : w.heap[bf]? = some (.cells #[.pointer (some ⟨bc, 0, none⟩), .int .i64 last] 55)
  row : w.heap[bc]? = some (.cells rows 57)
  ne : bf ≠ bc
  chg : Idl.Chg (fun i => i = bf ∨ i = bc) w0 w
section
variable {w0 w w' : World} {bf bc : Nat} {cs ds rows : Array Value} {m k : Img} {last : Int}
theorem Fl.fm (h : Fl w bf bc cs ds m k last) : Fm w w bf bc (cs ++ ds) last := ⟨h.root, h.row, h.ne, ⟨rfl, rfl, rfl, Nat.le_refl _, fun _ _ _ => rfl⟩⟩
theorem Fm.fl (h : Fm w0 w bf bc (cs ++ ds) last) (h1 : IsImg cs m) (h2 : IsImg ds k) : Fl w bf bc cs ds m k last := ⟨h.root, h.row, h1, h2, h.ne⟩
theorem Fm.flt (h : Fm w0 w bf bc rows last) : bf < w.heap.size := (Array.getElem?_eq_some_iff.1 h.root).1
theorem Fm.clt (h : Fm w0 w bf bc rows last) : bc < w.heap.size := (Array.getElem?_eq_some_iff.1 h.row).1
theorem Fm.ptr (h : Fm w0 w bf bc rows last) : w.cell? ⟨bf, 0, none⟩ = some (.pointer (some ⟨bc, 0, none⟩)) := by rw [cell_of_row w bf 0 _ _ _ h.root]; rfl
theorem Fm.lst (h : Fm w0 w bf bc rows last) : w.cell? ⟨bf, 1, none⟩ = some (.int .i64 last) := by rw [cell_of_row w bf 1 _ _ _ h.root]; rfl
theorem Fm.frozen (h : Fm w0 w bf bc rows last) (j : Nat) : w.frozen? ⟨bc, j, none⟩ = false := frozen_of_row w bc j _ _ h.row
theorem Fm.frozenF (h : Fm w0 w bf bc rows last) (j : Nat) : w.frozen? ⟨bf, j, none⟩ = false := frozen_of_row w bf j _ _ h.root
theorem Fm.call (h : Fm w0 w bf bc rows last) (hb : Below w.heap.size w w') : Fm w0 w' bf bc rows last :=
  ⟨by rw [hb.block _ h.flt]; exact h.root, by rw [hb.block _ h.clt]; exact h.row, h.ne, h.chg.trans (Idl.Chg.of_below (own := fun i => i = bf ∨ i = bc) hb) (fun i hi => .inl hi)⟩
theorem Fm.set (h : Fm w0 w bf bc rows last) (o : Nat) (v : Value) : Fm w0 (w.setCell ⟨bc, o, none⟩ v) bf bc (rows.setIfInBounds o v) last := by
  have hoth : ∀ i, i ≠ bc → (w.setCell ⟨bc, o, none⟩ v).heap[i]? = w.heap[i]? := fun i hi => Below.heap_setCell _ _ _ _ hi
  have hsz : (w.setCell ⟨bc, o, none⟩ v).heap.size = w.heap.size := by simp [World.setCell]
  refine ⟨by rw [hoth _ h.ne]; exact h.root, ?_, h.ne, h.chg.trans (own' := fun i => i = bc) ⟨rfl, rfl, rfl, by rw [hsz]; exact Nat.le_refl _, fun i _ hn => hoth i hn⟩ (fun i hi => .inl (.inr hi))⟩
  rw [setCell_eq_setRow w bc o _ _ _ v h.row, setRow_heap w bc _ _ _ _ h.row]
theorem Fm.setLast (h : Fm w0 w bf bc rows last) (v : Int) : Fm w0 (w.setCell ⟨bf, 1, none⟩ (.int .i64 v)) bf bc rows v := by
  have hoth : ∀ i, i ≠ bf → (w.setCell ⟨bf, 1, none⟩ (.int .i64 v)).heap[i]? = w.heap[i]? := fun i hi => Below.heap_setCell _ _ _ _ hi
  have hsz : (w.setCell ⟨bf, 1, none⟩ (.int .i64 v)).heap.size = w.heap.size := by simp [World.setCell]
  refine ⟨?_, by rw [hoth _ (Ne.symm h.ne)]; exact h.row, h.ne, h.chg.trans (own' := fun i => i = bf) ⟨rfl, rfl, rfl, by rw [hsz]; exact Nat.le_refl _, fun i _ hn => hoth i hn⟩ (fun i hi => .inl (.inl hi))⟩
  rw [setCell_eq_setRow w bf 1 _ _ _ _ h.root, setRow_heap w bf _ _ _ _ h.root]
  rfl
theorem app_set (h : cs.size = 94) {o : Nat} (ho : o < 94) (v : Value) : (cs ++ ds).setIfInBounds o v = cs.setIfInBounds o v ++ ds := by
  refine Array.ext_getElem? fun i => ?_
  rw [Array.getElem?_setIfInBounds, Array.getElem?_append, Array.getElem?_append, Array.size_setIfInBounds, Array.getElem?_setIfInBounds]
  by_cases e : o = i
  · subst e
    rw [if_pos rfl, Array.size_append, if_pos (by omega), if_pos (by omega), if_pos rfl, if_pos (by omega)]
  · rw [if_neg e, if_neg e]
theorem Fm.put (h : Fm w0 w bf bc (cs ++ ds) last) (hs : cs.size = 94) {o : Nat} (ho : o < 94) (v : Value) : Fm w0 (w.setCell ⟨bc, o, none⟩ v) bf bc (cs.setIfInBounds o v ++ ds) last := by
  rw [← app_set hs ho]; exact h.set o v
/-- a part of an inode is put: one cell -/
theorem IsImg.putPart (h : IsImg cs m) {n p : Nat} (hn : n < 8) (hp : p < 2) (v : Int) : IsImg (cs.setIfInBounds (n * 5 + 3 + p) (.int .i64 v)) (m.setPart n p v) := by
  have e : cs.setIfInBounds (n * 5 + 3 + p) (.int .i64 v) = put5v cs n ⟨m.live n, m.stamp n, m.links n, if p = 0 then v else m.part n 0, if p = 1 then v else m.part n 1⟩ := by
    have hs := h.size
    refine Array.ext_getElem? fun j => ?_
    unfold put5v
    rw [set5_get (by omega), Array.getElem?_setIfInBounds]
    have h0 := h.live n hn
    have h1 := h.stamp n hn
    have h2 := h.links n hn
    have h3 := h.part n 0 hn (by omega)
    have h4 := h.part n 1 hn (by omega)
    have hp' : p = 0 ∨ p = 1 := by omega
    by_cases j0 : j = n * 5
    · subst j0; rw [if_neg (by omega), if_pos rfl, h0]
    · by_cases j1 : j = n * 5 + 1
      · subst j1; rw [if_neg (by omega), if_neg (by omega), if_pos rfl, h1]
      · by_cases j2 : j = n * 5 + 2
        · subst j2; rw [if_neg (by omega), if_neg (by omega), if_neg (by omega), if_pos rfl, h2]
        · by_cases j3 : j = n * 5 + 3
          · subst j3
            rw [if_neg (by omega : ¬ n * 5 + 3 = n * 5), if_neg (by omega : ¬ n * 5 + 3 = n * 5 + 1), if_neg (by omega : ¬ n * 5 + 3 = n * 5 + 2), if_pos (rfl : n * 5 + 3 = n * 5 + 3)]
            rcases hp' with rfl | rfl
            · rw [if_pos rfl, if_pos (by omega)]; rfl
            · rw [if_neg (by omega)]; exact h3
          · by_cases j4 : j = n * 5 + 4
            · subst j4
              rw [if_neg (by omega : ¬ n * 5 + 4 = n * 5), if_neg (by omega : ¬ n * 5 + 4 = n * 5 + 1), if_neg (by omega : ¬ n * 5 + 4 = n * 5 + 2), if_neg (by omega : ¬ n * 5 + 4 = n * 5 + 3), if_pos (rfl : n * 5 + 4 = n * 5 + 4)]
              rcases hp' with rfl | rfl
              · rw [if_neg (by omega)]; exact h4
              · rw [if_pos rfl, if_pos (by omega)]; rfl
            · rw [if_neg (by omega), if_neg j0, if_neg j1, if_neg j2, if_neg j3, if_neg j4]
  rw [e]
  exact h.putIno hn _
theorem IsImg.putLinks (h : IsImg cs m) {n : Nat} (hn : n < 8) (v : Int) : IsImg (cs.setIfInBounds (n * 5 + 2) (.int .i64 v)) (m.putIno n ⟨m.live n, m.stamp n, v, m.part n 0, m.part n 1⟩) := by
  have e : cs.setIfInBounds (n * 5 + 2) (.int .i64 v) = put5v cs n ⟨m.live n, m.stamp n, v, m.part n 0, m.part n 1⟩ := by
    have hs := h.size
    refine Array.ext_getElem? fun j => ?_
    unfold put5v
    rw [set5_get (by omega), Array.getElem?_setIfInBounds]
    have h0 := h.live n hn
    have h1 := h.stamp n hn
    have h3 := h.part n 0 hn (by omega)
    have h4 := h.part n 1 hn (by omega)
    by_cases j0 : j = n * 5
    · subst j0; rw [if_neg (by omega), if_pos rfl, h0]
    · by_cases j1 : j = n * 5 + 1
      · subst j1; rw [if_neg (by omega), if_neg (by omega), if_pos rfl, h1]
      · by_cases j2 : j = n * 5 + 2
        · subst j2; rw [if_pos rfl, if_pos (by omega), if_neg (by omega), if_neg (by omega), if_pos rfl]
        · by_cases j3 : j = n * 5 + 3
          · subst j3; rw [if_neg (by omega), if_neg (by omega), if_neg (by omega), if_neg (by omega), if_pos rfl]; exact h3
          · by_cases j4 : j = n * 5 + 4
            · subst j4; rw [if_neg (by omega), if_neg (by omega), if_neg (by omega), if_neg (by omega), if_neg (by omega), if_pos rfl]; exact h4
            · rw [if_neg (by omega), if_neg j0, if_neg j1, if_neg j2, if_neg j3, if_neg j4]
  rw [e]
  exact h.putIno hn _
end
end Go.Proofs.YtmbpckmpnnmnmabGreat
namespace Go.Proofs.YtmbpckmpnnmnmabGreat
open Go.RowKit
open Idl (Stp chk stpA)
theorem stp_box (w : World) (x : Stp) (W : World) (bW : Below (w.alloc (.cells (stpA x) 37)).heap.size (w.alloc (.cells (stpA x) 37)) W) (j : Nat) (v : Value) (hj : (stpA x)[j]? = some v) : W.cell? ⟨w.heap.size, j, none⟩ = some v := by
  rw [bW.cell (p := ⟨w.heap.size, j, none⟩) (by simp), World.cell?_alloc_at _ _ _ _ rfl]; exact hj
theorem scheck_is {kind i1 i2 code : Int} (h : code = if kind = 1 then (if 0 ≤ i1 then 4 else 0) else if i1 < 0 then 5 else if (kind = 2 ∨ kind = 4) ∧ 0 ≤ i2 then 4 else 0) :
    (0 ≤ i1 → kind - 1 = 0 → code = 4) ∧ (i1 < 0 → kind - 1 = 0 → code = 0) ∧ (i1 < 0 → kind - 1 ≠ 0 → code = 5) ∧ (0 ≤ i1 → 0 ≤ i2 → (kind - 2) * (kind - 4) = 0 → code = 4) ∧ (0 ≤ i1 → i2 < 0 → kind - 1 ≠ 0 → code = 0) ∧ (0 ≤ i1 → kind - 1 ≠ 0 → kind - 2 ≠ 0 → kind - 4 ≠ 0 → code = 0) := by
  refine ⟨fun a b => ?_, fun a b => ?_, fun a b => ?_, fun a b c => ?_, fun a b c => ?_, fun a b c d => ?_⟩
  · rw [h, if_pos (by omega), if_pos a]
  · rw [h, if_pos (by omega), if_neg (by omega)]
  · rw [h, if_neg (by omega), if_pos a]
  · have : kind = 2 ∨ kind = 4 := by
      rcases Int.mul_eq_zero.1 c with z | z
      · left; omega
      · right; omega
    rw [h, if_neg (by omega), if_neg (by omega), if_pos ⟨this, b⟩]
  · rw [h, if_neg (by omega), if_neg (by omega), if_neg (by omega)]
  · rw [h, if_neg (by omega), if_neg (by omega), if_neg (by omega)]
section
variable {w : World} {bf bc : Nat} {cs ds : Array Value} {m k : Img} {last : Int}
set_option maxHeartbeats 2000000 in
set_option maxRecDepth 100000 in
theorem scheck_any (h : Fl w bf bc cs ds m k last) (x : Stp) (hn : x.name.size ≤ maxLen) (ht : x.to.size ≤ maxLen) (hx : x.text.size ≤ maxLen) :
    Calls Tryz.prog 54 #[.pointer (some ⟨bf, 0, none⟩), .agg (stpA x)] w fun e w' => e = .returned (.int .i64 (Img.scheck m x)) ∧ Below w.heap.size w w' := by
  have BEL := hide (show Below w.heap.size w (w.alloc (.cells (stpA x) 37)) from (Below.refl _ w).alloc (Nat.le_refl _) _)
  have C1 := hide (Idl.Check_any x hn ht hx (w.alloc (.cells (stpA x) 37)))
  have HC := hide fun W bW => stp_box w x W bW
  have HF := hide fun W (bW : Below w.heap.size w W) => fun d s => sfind_any (h.below bW) d s
  clear h
  by_cases hk : chk x = 0
  · rw [hk] at C1
    have e0 : Img.scheck m x = if x.kind = 1 then (if 0 ≤ Img.inoOf m x.dir x.name then 4 else 0)
      else if Img.inoOf m x.dir x.name < 0 then 5
      else if (x.kind = 2 ∨ x.kind = 4) ∧ 0 ≤ Img.inoOf m x.toDir x.to then 4 else 0 := by unfold Img.scheck; rw [if_neg (by rw [hk]; simp)]
    have E0 := hide (scheck_is e0)
    have F1 := hide fun W (bW : Below w.heap.size w W) => unhide HF W bW x.dir x.name
    have F2 := hide fun W (bW : Below w.heap.size w W) => unhide HF W bW x.toDir x.to
    clear HF e0 hk
    generalize Img.scheck m x = code at E0 ⊢
    generalize Img.inoOf m x.dir x.name = i1 at E0 F1
    generalize Img.inoOf m x.toDir x.to = i2 at E0 F2
    obtain ⟨kind, dir, toDir, p, name, tu, text⟩ := x
    try dsimp only at E0 F1 F2
    have hki : kind = 1 ∨ kind = 2 ∨ kind = 4 ∨ ((kind == 1) = false ∧ (kind == 2) = false ∧ (kind == 4) = false ∧ (kind != 1) = true) := by
      by_cases h1 : kind = 1
      · exact .inl h1
      · by_cases h2 : kind = 2
        · exact .inr (.inl h2)
        · by_cases h4 : kind = 4
          · exact .inr (.inr (.inl h4))
          · exact .inr (.inr (.inr ⟨by simpa using h1, by simpa using h2, by simpa using h4, by simpa using h1⟩))
    have ht1 : (decide (i1 ≥ 0) = true ∧ decide (0 ≤ i1) = true ∧ Hid (0 ≤ i1 ∧ ¬ i1 < 0)) ∨ (decide (i1 ≥ 0) = false ∧ decide (0 ≤ i1) = false ∧ Hid (i1 < 0 ∧ ¬ 0 ≤ i1)) := by
      by_cases h : 0 ≤ i1
      · exact .inl ⟨by simpa using h, by simpa using h, hide ⟨h, by omega⟩⟩
      · exact .inr ⟨by simpa using h, by simpa using h, hide ⟨by omega, h⟩⟩
    have ht2 : (decide (i2 ≥ 0) = true ∧ decide (0 ≤ i2) = true ∧ Hid (0 ≤ i2 ∧ ¬ i2 < 0)) ∨ (decide (i2 ≥ 0) = false ∧ decide (0 ≤ i2) = false ∧ Hid (i2 < 0 ∧ ¬ 0 ≤ i2)) := by
      by_cases h : 0 ≤ i2
      · exact .inl ⟨by simpa using h, by simpa using h, hide ⟨h, by omega⟩⟩
      · exact .inr ⟨by simpa using h, by simpa using h, hide ⟨by omega, h⟩⟩
    rcases hki with rfl | rfl | rfl | ⟨k1, k2, k4, k5⟩
    all_goals
      go_enter Tryz.func54, Tryz.ntmps54
      go_wp2_with fail
      refine (unhide C1).mono ?_
      rintro e w1 ⟨rfl, bel⟩
      have B1 := hide ((unhide BEL).trans (bel.mono (by simp)))
      have c0 := unhide HC w1 bel 0 _ rfl
      have c1 := unhide HC w1 bel 1 _ rfl
      have c2 := unhide HC w1 bel 2 _ rfl
      have c4 := unhide HC w1 bel 4 _ rfl
      have c5 := unhide HC w1 bel 5 _ rfl
      clear bel
      go_wp2_with fail
      refine (unhide F1 _ (unhide B1)).mono ?_
      rintro e w2 ⟨rfl, e9⟩
      rw [e9]
      clear e9 w2
    · rcases ht1 with ⟨t1, t2, t3⟩ | ⟨t1, t2, t3⟩
      all_goals
        go_wp2_with fail
        go_ret
        refine ⟨ret_int ?_, unhide B1⟩
        have t4 := unhide t3
        have z := unhide E0
        first | exact (z.1 t4.1 (by decide)).symm | exact (z.2.1 t4.1 (by decide)).symm
    · rcases ht1 with ⟨t1, t2, t3⟩ | ⟨t1, t2, t3⟩
      · rcases ht2 with ⟨s1, s2, s3⟩ | ⟨s1, s2, s3⟩
        all_goals
          go_wp2_with fail
          refine (unhide F2 _ (unhide B1)).mono ?_
          rintro e w2 ⟨rfl, e9⟩
          rw [e9]
          clear e9 w2
          go_wp2_with fail
          go_ret
          refine ⟨ret_int ?_, unhide B1⟩
          have t4 := unhide t3
          have s4 := unhide s3
          have z := unhide E0
          first | exact (z.2.2.2.1 t4.1 s4.1 (by decide)).symm | exact (z.2.2.2.2.1 t4.1 s4.1 (by decide)).symm
      · go_wp2_with fail
        go_ret
        refine ⟨ret_int ?_, unhide B1⟩
        have t4 := unhide t3
        have z := unhide E0
        exact (z.2.2.1 t4.1 (by decide)).symm
    · rcases ht1 with ⟨t1, t2, t3⟩ | ⟨t1, t2, t3⟩
      · rcases ht2 with ⟨s1, s2, s3⟩ | ⟨s1, s2, s3⟩
        all_goals
          go_wp2_with fail
          refine (unhide F2 _ (unhide B1)).mono ?_
          rintro e w2 ⟨rfl, e9⟩
          rw [e9]
          clear e9 w2
          go_wp2_with fail
          go_ret
          refine ⟨ret_int ?_, unhide B1⟩
          have t4 := unhide t3
          have s4 := unhide s3
          have z := unhide E0
          first | exact (z.2.2.2.1 t4.1 s4.1 (by decide)).symm | exact (z.2.2.2.2.1 t4.1 s4.1 (by decide)).symm
      · go_wp2_with fail
        go_ret
        refine ⟨ret_int ?_, unhide B1⟩
        have t4 := unhide t3
        have z := unhide E0
        exact (z.2.2.1 t4.1 (by decide)).symm
    · have kk1 : kind ≠ 1 := by simpa using k1
      have kk2 : kind ≠ 2 := by simpa using k2
      have kk4 : kind ≠ 4 := by simpa using k4
      have KK := hide (And.intro kk1 (And.intro kk2 kk4))
      clear kk1 kk2 kk4
      rcases ht1 with ⟨t1, t2, t3⟩ | ⟨t1, t2, t3⟩
      · go_wp2_with fail
        go_ret
        refine ⟨ret_int ?_, unhide B1⟩
        obtain ⟨z1, z2, z4⟩ := unhide KK
        have t4 := unhide t3
        have z := unhide E0
        exact (z.2.2.2.2.2 t4.1 (by omega) (by omega) (by omega)).symm
      · go_wp2_with fail
        go_ret
        refine ⟨ret_int ?_, unhide B1⟩
        obtain ⟨z1, z2, z4⟩ := unhide KK
        have t4 := unhide t3
        have z := unhide E0
        exact (z.2.2.1 t4.1 (by omega)).symm
  · have e0 : Img.scheck m x = chk x := by unfold Img.scheck; rw [if_pos hk]
    rw [e0]
    generalize chk x = ck at C1 hk
    have u1 : (ck != 0) = true := by simpa using hk
    clear HF HC e0
    obtain ⟨kind, dir, toDir, p, name, tu, text⟩ := x
    go_enter Tryz.func54, Tryz.ntmps54
    go_wp2_with fail
    refine (unhide C1).mono ?_
    rintro e w1 ⟨rfl, bel⟩
    have B1 := hide ((unhide BEL).trans (bel.mono (by simp)))
    clear bel
    go_wp2_with fail
    go_ret
    exact ⟨rfl, unhide B1⟩
end
end Go.Proofs.YtmbpckmpnnmnmabGreat
namespace Go.Proofs.YtmbpckmpnnmnmabGreat
open Go.RowKit
open Idl (Stp chk stpA)
section
variable {w : World} {bf bc : Nat} {cs ds : Array Value} {m k : Img} {last : Int}
theorem boxed_row {w w1 : World} (hb : Below w.heap.size w w1) {ds : Array Value} : Below w.heap.size w ((w1.alloc (.cells zeroCells 34)).setRow w1.heap.size ds) ∧ Below w1.heap.size w1 ((w1.alloc (.cells zeroCells 34)).setRow w1.heap.size ds) :=
  ⟨below_setRow (hb.alloc hb.size _) hb.size _, below_setRow ((Below.refl _ _).alloc (Nat.le_refl _) _) (Nat.le_refl _) _⟩
theorem boxed_has {w1 : World} {ds : Array Value} {k : Img} (hj : IsImg ds k) : HasAt ((w1.alloc (.cells zeroCells 34)).setRow w1.heap.size ds) w1.heap.size 0 k :=
  hasAt_of (cs := ds) (setRow_heap _ _ _ _ _ _ (heap_alloc_last w1 _)) (by rw [hj.size]; omega) (by rw [Nat.zero_add, ← hj.size]; simp) hj
set_option maxHeartbeats 2000000 in
set_option maxRecDepth 100000 in
theorem noPlace_any (h : Fl w bf bc cs ds m k last) (d : Int) (s : ByteArray) :
    Calls Tryz.prog 85 #[.pointer (some ⟨bf, 0, none⟩), .int .i64 d, .string s] w fun e w' => e = .returned (.bool (Img.noPlace m k d s)) ∧ Below w.heap.size w w' := by
  have z := zero_img.1
  have C1 := hide (disk_any bc cs ds m k h.now h.disk w h.row)
  have HF := hide h
  have p0 := h.ptr
  have hlt := h.flt
  have hj := h.disk
  have C2 := hide (fun X (hX : X.heap[bc]? = some (.cells (cs ++ ds) 57)) => cSlot_any bc cs ds m k h.now h.disk d X hX)
  have C3 := hide (fun g W (hW : HasAt W g 0 k) => At.find_any g k d s W hW)
  have NP := hide (show Img.noPlace m k d s = (decide (Img.freeSlot m k d < 0) || decide (0 ≤ k.findAt d s.toList)) from rfl)
  generalize Img.noPlace m k d s = np at NP ⊢
  generalize Img.freeSlot m k d = fs at NP C2
  generalize k.findAt d s.toList = v at NP C3
  clear h
  go_enter Tryz.func85, Tryz.ntmps85
  go_wp2_with fail
  refine (unhide C1).mono ?_
  rintro e w1 ⟨rfl, b1⟩
  have B1 := hide b1
  have hz : zeroCells.size = ds.size := by rw [hj.size]; exact size_newTo 0
  clear p0 b1
  go_wp2_with (refine wpList_store_row rfl 34 _ _ rfl w1.heap.size ds rfl rfl 34 zeroCells (heap_alloc_last w1 _) (img_info hj.size) hz hj.all ?_; have HX := hide (boxed_row (unhide B1) (ds := ds)); have HK := hide (boxed_has (w1 := w1) hj); generalize (w1.alloc (.cells zeroCells 34)).setRow w1.heap.size ds = X at HX HK ⊢; have p1 := ((unhide HF).below (unhide HX).1).ptr; have l1 := ((unhide HF).below (unhide HX).1).flt)
  refine (unhide C2 X ((unhide HF).below (unhide HX).1).row).mono ?_
  rintro e w2 ⟨rfl, b2⟩
  have B2 := hide ((unhide HX).1.trans (b2.mono (unhide HX).1.size))
  have C4 := hide (unhide C3 w1.heap.size w2 ((unhide HK).below b2 (unhide HK).lt))
  clear b2 p1 l1 HX HK
  by_cases hs : fs < 0
  · have u1 : decide (fs < 0) = true := by simpa using hs
    have NQ := hide (show np = true by rw [unhide NP, u1, Bool.true_or])
    clear hs C3 C4 NP
    go_wp2_with fail
    go_ret
    exact ⟨ret_bool (unhide NQ).symm, unhide B2⟩
  · have u1 : decide (fs < 0) = false := by simpa using hs
    have NQ := hide (show np = decide (0 ≤ v) by rw [unhide NP, u1, Bool.false_or])
    clear hs C3 NP
    go_wp2_with fail
    refine (unhide C4).mono ?_
    rintro e w3 ⟨rfl, e9⟩
    rw [e9]
    clear e9 w3
    go_wp2_with fail
    go_ret
    exact ⟨ret_bool (by rw [unhide NQ]), unhide B2⟩
end
end Go.Proofs.YtmbpckmpnnmnmabGreat
namespace Go.Proofs.YtmbpckmpnnmnmabGreat
section
variable {P : Program} {ops : Array Oper} {Q : Exit → Act → World → Prop} {md : Region.Mode} {S : World → Prop} {f : Nat}
def wpAnyF (P : Program) (md : Region.Mode) (ops : Array Oper) (Q : Exit → Act → World → Prop) (S : World → Prop) (f : Nat) : Nat → Array Bool → Act → World → Prop
  | 0, listed, a, w => Region.ready md ops listed = [] ∧ Q .normal a w
  | fuel + 1, listed, a, w => (Region.ready md ops listed = [] → Q .normal a w) ∧
    ∀ i ∈ Region.ready md ops listed, wpOp P ops Q i (fun a' w' => ((listed.setIfInBounds i true).getD f true = false → S w') ∧ wpAnyF P md ops Q S f fuel (listed.setIfInBounds i true) a' w') a w
theorem wpAny_of_F : ∀ (fuel : Nat) (listed : Array Bool) (a : Act) (w : World), wpAnyF P md ops Q S f fuel listed a w → wpAny P md ops Q fuel listed a w
  | 0, _, _, _, h => h
  | fuel + 1, _, _, _, h => ⟨h.1, fun i hi => wpOp_mono (fun a' w' h' => wpAny_of_F fuel _ a' w' h'.2) (h.2 i hi)⟩
/-- the last one waits for it -/
def waits (md : Region.Mode) (ops : Array Oper) (f i : Nat) : Bool := match ops[f]? with | some o => o.after.any fun e => Region.binds md e && e.on == i | none => false
theorem waits_ready {i : Nat} {listed : Array Bool} (h : waits md ops f i = true) (hi : listed.getD i true = false) : f ∉ Region.ready md ops listed := fun hf => by
  obtain ⟨_, o, ho, hall⟩ := mem_ready.1 hf
  unfold waits at h
  rw [ho] at h
  simp only [Array.any_eq_true, Bool.and_eq_true, beq_iff_eq] at h
  obtain ⟨j, hj, hb, e⟩ := h
  have := hall _ (Array.getElem_mem hj) hb
  rw [e] at this
  rcases Nat.lt_or_ge i listed.size with h' | h'
  · simp [h'] at hi this; rw [hi] at this; cases this
  · simp [Array.getElem?_eq_none h'] at this
/-- what yields its value in every world that meets S, and is waited for by the last one -/
theorem wpAnyF_first {i : Nat} {oi : Oper} {v : Value} (hi : ops[i]? = some oi) (hsel : ∀ (j : Nat) (o : Oper) cs b, ops[j]? = some o → o.op ≠ .select cs b)
    (hQ : ∀ c a w, Q (.panic c) (a.put oi.dst v) w → Q (.panic c) a w) (hw : waits md ops f i = true) :
    ∀ (fuel : Nat) (listed : Array Bool) (a : Act) (w : World),
      (∀ j oj, ops[j]? = some oj → j ≠ i → listed.getD j true = false → (∀ e ∈ oj.after, Region.binds md e = true → e.on ≠ i) → oi.apart ops oj = true) →
      i ∈ Region.ready md ops listed → listed.getD f true = false → YieldsIf P ops S oi v a → S w →
      wpAnyF P md ops Q S f fuel (listed.setIfInBounds i true) (a.put oi.dst v) w → wpAnyF P md ops Q S f (fuel + 1) listed a w := by
  intro fuel
  induction fuel with
  | zero =>
    intro listed a w _ hr _ hy hS H
    refine ⟨fun h => (by rw [h] at hr; cases hr), fun j hj => ?_⟩
    by_cases hji : j = i
    · subst hji; exact hy.wpOp hi hS ⟨fun _ => hS, H⟩
    · have := ready_mono hj hji
      rw [H.1] at this
      cases this
  | succ fuel ih =>
    intro listed a w hfree hr hfl hy hS H
    refine ⟨fun h => (by rw [h] at hr; cases hr), fun j hj => ?_⟩
    by_cases hji : j = i
    · subst hji; exact hy.wpOp hi hS ⟨fun _ => hS, H⟩
    · have h1 := H.2 j (ready_mono hj hji)
      have hfr : f ∉ Region.ready md ops listed := waits_ready hw (mem_ready.1 hr).1
      have hjf : j ≠ f := fun e => hfr (by rw [← e]; exact hj)
      have hif : i ≠ f := fun e => hfr (by rw [← e]; exact hr)
      obtain ⟨hjun, oj, hoj, hall⟩ := mem_ready.1 hj
      have hnot : ∀ e ∈ oj.after, Region.binds md e = true → e.on ≠ i := fun e he hb heq => by
        have h1 := hall e he hb
        have h0 := (mem_ready.1 hr).1
        rw [heq] at h1
        rcases Nat.lt_or_ge i listed.size with h' | h'
        · simp [h'] at h0 h1; rw [h0] at h1; cases h1
        · simp [Array.getElem?_eq_none h'] at h1
      have h2 := wpOp_putIf hoj (hfree j oj hoj hji hjun hnot) (fun cs b => hsel i oi cs b hi) (fun cs b => hsel j oj cs b hoj) hQ hy h1
      have hfree' : ∀ k ok, ops[k]? = some ok → k ≠ i → (listed.setIfInBounds j true).getD k true = false →
          (∀ e ∈ ok.after, Region.binds md e = true → e.on ≠ i) → oi.apart ops ok = true := fun k ok hk hki hun hno => by
        refine hfree k ok hk hki ?_ hno
        by_cases hjk : j = k
        · subst hjk; exact hjun
        · rw [getD_set_ne true hjk] at hun; exact hun
      have hfl' : (listed.setIfInBounds j true).getD f true = false := by rw [getD_set_ne true hjf]; exact hfl
      have hfl2 : ((listed.setIfInBounds i true).setIfInBounds j true).getD f true = false := by rw [getD_set_ne true hjf, getD_set_ne true hif]; exact hfl
      refine wpOp_mono (fun a' w' h3 => ⟨fun _ => h3.2.1 hfl2, ih (listed.setIfInBounds j true) a' w' hfree' (ready_mono hr (Ne.symm hji)) hfl' h3.1 (h3.2.1 hfl2) ?_⟩) h2
      rw [Array.setIfInBounds_comm _ _ hji]
      exact h3.2.2
/-- what yields its value in every world -/
theorem wpAnyF_free1 {i : Nat} {oi : Oper} {v : Value} (hi : ops[i]? = some oi) (hsel : ∀ (j : Nat) (o : Oper) cs b, ops[j]? = some o → o.op ≠ .select cs b)
    (hQ : ∀ c a w, Q (.panic c) (a.put oi.dst v) w → Q (.panic c) a w) (hif : i ≠ f) :
    ∀ (fuel : Nat) (listed : Array Bool) (a : Act) (w : World),
      (∀ j oj, ops[j]? = some oj → j ≠ i → listed.getD j true = false → (∀ e ∈ oj.after, Region.binds md e = true → e.on ≠ i) → oi.apart ops oj = true) →
      i ∈ Region.ready md ops listed → YieldsIf P ops (fun _ => True) oi v a → (listed.getD f true = false → S w) →
      wpAnyF P md ops Q S f fuel (listed.setIfInBounds i true) (a.put oi.dst v) w → wpAnyF P md ops Q S f (fuel + 1) listed a w := by
  intro fuel
  induction fuel with
  | zero =>
    intro listed a w _ hr hy hS H
    refine ⟨fun h => (by rw [h] at hr; cases hr), fun j hj => ?_⟩
    by_cases hji : j = i
    · subst hji; exact hy.wpOp hi trivial ⟨fun h => hS (by rw [getD_set_ne true hif] at h; exact h), H⟩
    · have := ready_mono hj hji
      rw [H.1] at this
      cases this
  | succ fuel ih =>
    intro listed a w hfree hr hy hS H
    refine ⟨fun h => (by rw [h] at hr; cases hr), fun j hj => ?_⟩
    by_cases hji : j = i
    · subst hji; exact hy.wpOp hi trivial ⟨fun h => hS (by rw [getD_set_ne true hif] at h; exact h), H⟩
    · have h1 := H.2 j (ready_mono hj hji)
      obtain ⟨hjun, oj, hoj, hall⟩ := mem_ready.1 hj
      have hnot : ∀ e ∈ oj.after, Region.binds md e = true → e.on ≠ i := fun e he hb heq => by
        have h1 := hall e he hb
        have h0 := (mem_ready.1 hr).1
        rw [heq] at h1
        rcases Nat.lt_or_ge i listed.size with h' | h'
        · simp [h'] at h0 h1; rw [h0] at h1; cases h1
        · simp [Array.getElem?_eq_none h'] at h1
      have h2 := wpOp_putIf hoj (hfree j oj hoj hji hjun hnot) (fun cs b => hsel i oi cs b hi) (fun cs b => hsel j oj cs b hoj) hQ hy h1
      have hfree' : ∀ k ok, ops[k]? = some ok → k ≠ i → (listed.setIfInBounds j true).getD k true = false →
          (∀ e ∈ ok.after, Region.binds md e = true → e.on ≠ i) → oi.apart ops ok = true := fun k ok hk hki hun hno => by
        refine hfree k ok hk hki ?_ hno
        by_cases hjk : j = k
        · subst hjk; exact hjun
        · rw [getD_set_ne true hjk] at hun; exact hun
      have hcon : (listed.setIfInBounds j true).getD f true = false → ((listed.setIfInBounds i true).setIfInBounds j true).getD f true = false := fun h => by
        rw [Array.setIfInBounds_comm _ _ (Ne.symm hji), getD_set_ne true hif]; exact h
      refine wpOp_mono (fun a' w' h3 => ⟨fun h => h3.2.1 (hcon h), ih (listed.setIfInBounds j true) a' w' hfree' (ready_mono hr (Ne.symm hji)) h3.1 (fun h => h3.2.1 (hcon h)) ?_⟩) h2
      rw [Array.setIfInBounds_comm _ _ hji]
      exact h3.2.2
theorem wpAnyF_take {i : Nat} {oi : Oper} {v : Value} {fuel : Nat} {listed : Array Bool} {a : Act} {w : World} (hi : ops[i]? = some oi)
    (hs : Region.noSelect ops = true) (hf : Region.free md ops listed i = true) (hr : (Region.ready md ops listed).contains i = true) (hw : (waits md ops f i && !listed.getD f true) = true)
    (hQ : ∀ c a w, Q (.panic c) (a.put oi.dst v) w → Q (.panic c) a w) (hy : YieldsIf P ops S oi v a) (hS : S w)
    (h : wpAnyF P md ops Q S f fuel (listed.setIfInBounds i true) (a.put oi.dst v) w) : wpAnyF P md ops Q S f (fuel + 1) listed a w := by
  rw [Bool.and_eq_true, Bool.not_eq_true'] at hw
  exact wpAnyF_first hi (Region.noSelect_spec hs) hQ hw.1 fuel listed a w (Region.free_spec hi hf) (by simpa using hr) hw.2 hy hS h
theorem wpAnyF_free {i : Nat} {oi : Oper} {v : Value} {fuel : Nat} {listed : Array Bool} {a : Act} {w : World} (hi : ops[i]? = some oi)
    (hs : Region.noSelect ops = true) (hf : Region.free md ops listed i = true) (hr : (Region.ready md ops listed).contains i = true) (hw : (i == f) = false)
    (hQ : ∀ c a w, Q (.panic c) (a.put oi.dst v) w → Q (.panic c) a w) (hy : YieldsIf P ops (fun _ => True) oi v a) (hS : S w)
    (h : wpAnyF P md ops Q S f fuel (listed.setIfInBounds i true) (a.put oi.dst v) w) : wpAnyF P md ops Q S f (fuel + 1) listed a w :=
  wpAnyF_free1 hi (Region.noSelect_spec hs) hQ (by simpa using hw) fuel listed a w (Region.free_spec hi hf) (by simpa using hr) hy (fun _ => hS) h
/-- one alone may come up -/
theorem wpAnyF_one {i : Nat} {o : Oper} {fuel : Nat} {listed : Array Bool} {a : Act} {w : World} (hr : Region.ready md ops listed = [i]) (ho : ops[i]? = some o) (hwant : Region.wanted o (yielded ops a.tmps) = true)
    (h : ∀ K' : Act → World → Prop, Shut (∀ a w, ((listed.setIfInBounds i true).getD f true = false → S w) → wpAnyF P md ops Q S f fuel (listed.setIfInBounds i true) a w → K' a w) → Oper.wp P o a w K' Q) : wpAnyF P md ops Q S f (fuel + 1) listed a w := by
  refine ⟨fun h0 => (by rw [hr] at h0; cases h0), fun j hj => ?_⟩
  rw [hr, List.mem_singleton] at hj
  subst hj
  exact wpOp_step ho (fun K' hK => by rw [if_pos hwant]; exact h K' (fun a w hS hW => hK a w ⟨hS, hW⟩))
/-- the last one -/
theorem wpAnyF_last {o : Oper} {fuel : Nat} {listed : Array Bool} {a : Act} {w : World} (hr : Region.ready md ops listed = [f]) (ho : ops[f]? = some o) (hwant : Region.wanted o (yielded ops a.tmps) = true) (hz : (listed.setIfInBounds f true).getD f true = true)
    (h : ∀ K' : Act → World → Prop, Shut (∀ a w, wpAnyF P md ops Q S f fuel (listed.setIfInBounds f true) a w → K' a w) → Oper.wp P o a w K' Q) : wpAnyF P md ops Q S f (fuel + 1) listed a w :=
  wpAnyF_one hr ho hwant (fun K' hK => h K' (fun a w hW => hK.out a w (fun z => by rw [hz] at z; cases z) hW))
theorem wpAnyF_done {listed : Array Bool} {a : Act} {w : World} (hr : Region.ready md ops listed = []) (h : Q .normal a w) : ∀ fuel, wpAnyF P md ops Q S f fuel listed a w
  | 0 => ⟨hr, h⟩
  | _ + 1 => ⟨fun _ => h, by rw [hr]; simp⟩
theorem wp_region_F {id : Nat} {a : Act} {w : World} (f : Nat) (hm : P.follows .mixedOrders = true) (hS : S w.drew)
    (h : S w.drew → wpAnyF P .any ops Q S f ops.size (Array.replicate ops.size false) a w.drew) : (Code.region id ops true).wp P Q a w :=
  wp_region_any hm (wpAny_of_F _ _ _ _ (h hS))
end
end Go.Proofs.YtmbpckmpnnmnmabGreat
namespace Go.Proofs.YtmbpckmpnnmnmabGreat
open Go.RowKit
open Idl (Stp chk stpA)
namespace Op1
theorem ld_ptr {o : Oper} {ρ : Operand → Value} (x : Operand) (ho : o.op = .load 53 x) {g o0 : Nat} (hx : ρ x = .pointer (some ⟨g, o0, none⟩)) {p : Option Addr} (w : World) (h : w.cell? ⟨g, o0, none⟩ = some (.pointer p)) : (execOp ρ o).run Tryz.prog w = .ok (.value (.pointer p)) w := by
  unfold execOp
  rw [ho]
  go_simp
theorem ld_int {o : Oper} {ρ : Operand → Value} (x : Operand) (ho : o.op = .load 3 x) {g o0 : Nat} (hx : ρ x = .pointer (some ⟨g, o0, none⟩)) {v : Int} (w : World) (h : w.cell? ⟨g, o0, none⟩ = some (.int .i64 v)) : (execOp ρ o).run Tryz.prog w = .ok (.value (.int .i64 v)) w := by
  unfold execOp
  rw [ho]
  go_simp
theorem ld_str {o : Oper} {ρ : Operand → Value} (x : Operand) (ho : o.op = .load 9 x) {g o0 : Nat} (hx : ρ x = .pointer (some ⟨g, o0, none⟩)) {v : ByteArray} (w : World) (h : w.cell? ⟨g, o0, none⟩ = some (.string v)) : (execOp ρ o).run Tryz.prog w = .ok (.value (.string v)) w := by
  unfold execOp
  rw [ho]
  go_simp
theorem ix_ino {o : Oper} {ρ : Operand → Value} (x y : Operand) (ho : o.op = .indexAddr 25 x y) {g j : Nat} (hx : ρ x = .pointer (some ⟨g, 0, none⟩)) (hy : ρ y = .int .i64 ((j : Nat) : Int)) (hj : j < 8) (w : World) : (execOp ρ o).run Tryz.prog w = .ok (.value (.pointer (some ⟨g, j * 5, none⟩))) w := by
  have jz : (j : Int) < 8 := by omega
  unfold execOp
  rw [ho]
  go_simp
theorem ix_part {o : Oper} {ρ : Operand → Value} (x y : Operand) (ho : o.op = .indexAddr 22 x y) {g o0 j : Nat} (hx : ρ x = .pointer (some ⟨g, o0, none⟩)) (hy : ρ y = .int .i64 ((j : Nat) : Int)) (hj : j < 2) (w : World) : (execOp ρ o).run Tryz.prog w = .ok (.value (.pointer (some ⟨g, o0 + j, none⟩))) w := by
  have jz : (j : Int) < 2 := by omega
  unfold execOp
  rw [ho]
  go_simp
theorem ix_dir {o : Oper} {ρ : Operand → Value} (x y : Operand) (ho : o.op = .indexAddr 29 x y) {g o0 j : Nat} (hx : ρ x = .pointer (some ⟨g, o0, none⟩)) (hy : ρ y = .int .i64 ((j : Nat) : Int)) (hj : j < 3) (w : World) : (execOp ρ o).run Tryz.prog w = .ok (.value (.pointer (some ⟨g, o0 + j * 12, none⟩))) w := by
  have jz : (j : Int) < 3 := by omega
  unfold execOp
  rw [ho]
  go_simp
theorem ix_slot {o : Oper} {ρ : Operand → Value} (x y : Operand) (ho : o.op = .indexAddr 28 x y) {g o0 j : Nat} (hx : ρ x = .pointer (some ⟨g, o0, none⟩)) (hy : ρ y = .int .i64 ((j : Nat) : Int)) (hj : j < 4) (w : World) : (execOp ρ o).run Tryz.prog w = .ok (.value (.pointer (some ⟨g, o0 + j * 3, none⟩))) w := by
  have jz : (j : Int) < 4 := by omega
  unfold execOp
  rw [ho]
  go_simp
theorem ix_data {o : Oper} {ρ : Operand → Value} (x y : Operand) (ho : o.op = .indexAddr 32 x y) {g o0 j : Nat} (hx : ρ x = .pointer (some ⟨g, o0, none⟩)) (hy : ρ y = .int .i64 ((j : Nat) : Int)) (hj : j < 9) (w : World) : (execOp ρ o).run Tryz.prog w = .ok (.value (.pointer (some ⟨g, o0 + j * 2, none⟩))) w := by
  have jz : (j : Int) < 9 := by omega
  unfold execOp
  rw [ho]
  go_simp
theorem lss0 {o : Oper} {ρ : Operand → Value} (x : Operand) (ho : o.op = .binOp .lss 3 x (.const (.int .i64 0)) 3) {v : Int} (hx : ρ x = .int .i64 v) (hy : ρ (.const (.int .i64 0)) = .int .i64 0) (w : World) : (execOp ρ o).run Tryz.prog w = .ok (.value (.bool (decide (v < 0)))) w := by
  unfold execOp
  rw [ho]
  go_simp
theorem add1 {o : Oper} {ρ : Operand → Value} (x : Operand) (ho : o.op = .binOp .add 3 x (.const (.int .i64 1)) 3) {v : Int} (hx : ρ x = .int .i64 v) (hy : ρ (.const (.int .i64 1)) = .int .i64 1) (hv : -9223372036854775808 ≤ v + 1 ∧ v + 1 ≤ 9223372036854775807) (w : World) : (execOp ρ o).run Tryz.prog w = .ok (.value (.int .i64 (v + 1))) w := by
  have hw : IntKind.i64.wrap (v + 1) = v + 1 := IntWalk.i64_in _ hv
  unfold execOp
  rw [ho]
  go_simp
theorem sub1 {o : Oper} {ρ : Operand → Value} (x : Operand) (ho : o.op = .binOp .sub 3 x (.const (.int .i64 1)) 3) {v : Int} (hx : ρ x = .int .i64 v) (hy : ρ (.const (.int .i64 1)) = .int .i64 1) (hv : -9223372036854775808 ≤ v - 1 ∧ v - 1 ≤ 9223372036854775807) (w : World) : (execOp ρ o).run Tryz.prog w = .ok (.value (.int .i64 (v - 1))) w := by
  have hw : IntKind.i64.wrap (v - 1) = v - 1 := IntWalk.i64_in _ hv
  unfold execOp
  rw [ho]
  go_simp
/-- a store of one cell -/
theorem st_int {o : Oper} {a : Act} {K : Act → World → Prop} {Q : Exit → Act → World → Prop} {W : World} (x y : Operand) (ho : o.op = .store 3 x y) (hd : o.dst = none) {g o0 : Nat} {v : Int} (hx : a.eval x = .pointer (some ⟨g, o0, none⟩)) (hy : a.eval y = .int .i64 v) {u : Value} (hc : W.cell? ⟨g, o0, none⟩ = some u) (hf : W.frozen? ⟨g, o0, none⟩ = false)
    (h : K a (W.setCell ⟨g, o0, none⟩ (.int .i64 v))) : o.wp Tryz.prog a W K Q := by
  unfold Oper.wp execOp
  simp only [ho, hx, hy]
  go_simp
  exact h
theorem st_bool {o : Oper} {a : Act} {K : Act → World → Prop} {Q : Exit → Act → World → Prop} {W : World} (x y : Operand) (ho : o.op = .store 4 x y) (hd : o.dst = none) {g o0 : Nat} {v : Bool} (hx : a.eval x = .pointer (some ⟨g, o0, none⟩)) (hy : a.eval y = .bool v) {u : Value} (hc : W.cell? ⟨g, o0, none⟩ = some u) (hf : W.frozen? ⟨g, o0, none⟩ = false)
    (h : K a (W.setCell ⟨g, o0, none⟩ (.bool v))) : o.wp Tryz.prog a W K Q := by
  unfold Oper.wp execOp
  simp only [ho, hx, hy]
  go_simp
  exact h
/-- a store of a part of a row -/
theorem st_part {P : Program} {o : Oper} {a : Act} {K : Act → World → Prop} {Q : Exit → Act → World → Prop} {W : World} (ty : TypeId) (x y : Operand) (ho : o.op = .store ty x y) (hd : o.dst = none) {g o0 : Nat} {cells : Array Value} (hx : a.eval x = .pointer (some ⟨g, o0, none⟩)) (hy : a.eval y = .agg cells)
    {t : TypeId} {old : Array Value} (hg : W.heap[g]? = some (.cells old t (0, 0))) (hi : (P.info? ty).map (·.size) = some cells.size) (hold : o0 + cells.size ≤ old.size) (h1 : cells.all (·.oneCell') = true)
    (h : K a (W.setRow g (splice old o0 cells))) : o.wp P a W K Q := by
  unfold Oper.wp execOp
  simp only [ho, hx, hy, Instr.storeAt, Instr.sureAddr, Sem.run_bind, Sem.run_pure, Result.andThen_ok, run_storeVar_part W g o0 t ty old cells hg hi hold h1]
  show Oper.upon P o a K Q _
  unfold Oper.upon
  first
    | exact .inl (by rw [hd]; exact h)
    | (simp only [hd]; exact .inl h)
    | (rw [hd]; exact h)
end Op1
end Go.Proofs.YtmbpckmpnnmnmabGreat
namespace Go.Proofs.YtmbpckmpnnmnmabGreat
open Go.RowKit
open Idl (Stp chk stpA)
theorem sfull_make (m k : Img) (x : Stp) (h : x.kind = 1) : Img.sfull m k x = (decide (Img.freeIno m k < 0) || Img.noPlace m k x.dir x.name) := by unfold Img.sfull; rw [if_pos h]
theorem sfull_to (m k : Img) (x : Stp) (h : x.kind = 2 ∨ x.kind = 4) : Img.sfull m k x = Img.noPlace m k x.toDir x.to := by unfold Img.sfull; rw [if_neg (by omega), if_pos h]
theorem sfull_put (m k : Img) (x : Stp) (h : x.kind = 5) : Img.sfull m k x = (decide (m.part (Img.inoOf m x.dir x.name).toNat x.p.toNat < 0) && decide (Img.freeData m k < 0)) := by unfold Img.sfull; rw [if_neg (by omega), if_neg (by omega), if_pos h]
theorem sfull_else (m k : Img) (x : Stp) (h : x.kind ≠ 1 ∧ x.kind ≠ 2 ∧ x.kind ≠ 4 ∧ x.kind ≠ 5) : Img.sfull m k x = false := by unfold Img.sfull; rw [if_neg h.1, if_neg (by omega), if_neg h.2.2.2]
section
variable {w : World} {bf bc : Nat} {cs ds : Array Value} {m k : Img} {last : Int}
/-- what a region of these files reads: the cache's place, the boxed step, the image -/
def FS (bf bc xb : Nat) (m : Img) (x : Stp) (W : World) : Prop := W.cell? ⟨bf, 0, none⟩ = some (.pointer (some ⟨bc, 0, none⟩)) ∧ (∀ (j : Nat) (u : Value), (stpA x)[j]? = some u → W.cell? ⟨xb, j, none⟩ = some u) ∧ HasAt W bc 0 m
theorem FS.of (h : Fl w bf bc cs ds m k last) (x : Stp) {W : World} (hb : Below (w.alloc (.cells (stpA x) 37)).heap.size (w.alloc (.cells (stpA x) 37)) W) : FS bf bc w.heap.size m x W := by
  have b1 : Below w.heap.size w W := ((Below.refl _ w).alloc (Nat.le_refl _) _).trans (hb.mono (by simp))
  exact ⟨(h.below b1).ptr, fun j u hj => stp_box w x W hb j u hj, (h.below b1).hasNow⟩
theorem FS.below {xb : Nat} {x : Stp} {W W' : World} (h : FS bf bc xb m x W) (hf : bf < W.heap.size) (hx : xb < W.heap.size) (hb : Below W.heap.size W W') : FS bf bc xb m x W' :=
  ⟨(hb.cell (p := ⟨bf, 0, none⟩) hf).trans h.1, fun j u hj => (hb.cell (p := ⟨xb, j, none⟩) hx).trans (h.2.1 j u hj), h.2.2.below hb h.2.2.lt⟩
set_option maxHeartbeats 2000000 in
set_option maxRecDepth 100000 in
theorem sfull_any (h : Fl w bf bc cs ds m k last) (hla : last < 4611686018427387904) (x : Stp) (h5 : x.kind = 5 → ∃ n q : Nat, n < 8 ∧ q < 2 ∧ Img.inoOf m x.dir x.name = (n : Int) ∧ x.p = (q : Int)) :
    Calls Tryz.prog 59 #[.pointer (some ⟨bf, 0, none⟩), .agg (stpA x)] w fun e w' => e = .returned (.bool (Img.sfull m k x)) ∧ Below w.heap.size w w' := by
  have BEL := hide (show Below w.heap.size w (w.alloc (.cells (stpA x) 37)) from (Below.refl _ w).alloc (Nat.le_refl _) _)
  have HF := hide h
  have HS := hide fun W hb => FS.of h x (W := W) hb
  have S0 := unhide HS _ (Below.refl _ _)
  have p0 := S0.1
  have c0 := S0.2.1 0 _ rfl
  have lt0 : bf < (w.alloc (.cells (stpA x) 37)).heap.size := Nat.lt_of_lt_of_le h.flt (by simp)
  have LT0 := hide lt0
  clear lt0
  clear h
  by_cases k1 : x.kind = 1
  · have E := hide (sfull_make m k x k1)
    have C2 := hide fun W (bW : Below w.heap.size w W) => noPlace_any ((unhide HF).below bW) x.dir x.name
    have C1 := hide fun W (bW : Below w.heap.size w W) => cInode_any bc cs ds m k (unhide HF).now (unhide HF).disk W ((unhide HF).below bW).row
    have HL := hide fun W (bW : Below w.heap.size w W) => ((unhide HF).below bW).lst
    have c1 := S0.2.1 1 _ rfl
    have c4 := S0.2.1 4 _ rfl
    have HS2 := hide fun W hb => (unhide HS W hb).2.1
    generalize Img.sfull m k x = fl at E ⊢
    generalize Img.noPlace m k x.dir x.name = np at E C2
    generalize Img.freeIno m k = fi at E C1
    have l1 : (last == 9223372036854775807) = false := by simp; omega
    obtain ⟨kind, dir, toDir, p, name, tu, text⟩ := x
    have kk : kind = 1 := k1
    subst kk
    clear S0 HS h5 k1
    by_cases hfi : fi < 0
    · have u1 : decide (fi < 0) = true := by simpa using hfi
      have E1 := hide (show fl = true by rw [unhide E, u1]; rfl)
      go_enter Tryz.func59, Tryz.ntmps59
      go_wp2_with fail
      refine (unhide C1 _ (unhide BEL)).mono ?_
      rintro e w1 ⟨rfl, b1⟩
      have B1 := hide ((unhide BEL).trans (b1.mono (by simp)))
      clear b1
      go_wp2_with fail
      go_ret
      exact ⟨ret_bool (unhide E1).symm, unhide B1⟩
    · have u1 : decide (fi < 0) = false := by simpa using hfi
      have E1 := hide (show fl = np by rw [unhide E, u1]; rfl)
      go_enter Tryz.func59, Tryz.ntmps59
      go_wp2_with fail
      refine (unhide C1 _ (unhide BEL)).mono ?_
      rintro e w1 ⟨rfl, b1⟩
      have B1 := hide ((unhide BEL).trans (b1.mono (by simp)))
      have q1 := unhide HL w1 (unhide B1)
      have g1 := unhide HS2 w1 b1 1 _ rfl
      have g4 := unhide HS2 w1 b1 4 _ rfl
      clear b1 c0 c1 c4 p0
      go_wp2_with fail
      refine (unhide C2 _ (unhide B1)).mono ?_
      rintro e w2 ⟨rfl, b2⟩
      have B2 := hide ((unhide B1).trans (b2.mono (unhide B1).size))
      clear b2
      go_wp2_with fail
      go_ret
      exact ⟨ret_bool (unhide E1).symm, unhide B2⟩
  · by_cases k24 : x.kind = 2 ∨ x.kind = 4
    · have E := hide (sfull_to m k x k24)
      have C2 := hide (noPlace_any ((unhide HF).below (unhide BEL)) x.toDir x.to)
      have c2 := S0.2.1 2 _ rfl
      have c5 := S0.2.1 5 _ rfl
      generalize Img.sfull m k x = fl at E ⊢
      generalize Img.noPlace m k x.toDir x.to = np at E C2
      obtain ⟨kind, dir, toDir, p, name, tu, text⟩ := x
      have kk : kind = 2 ∨ kind = 4 := k24
      clear S0 HS h5 k1 k24
      rcases kk with rfl | rfl
      all_goals
        go_enter Tryz.func59, Tryz.ntmps59
        go_wp2_with fail
        refine (unhide C2).mono ?_
        rintro e w2 ⟨rfl, b2⟩
        have B2 := hide ((unhide BEL).trans (b2.mono (by simp)))
        clear b2
        go_wp2_with fail
        go_ret
        exact ⟨ret_bool (unhide E).symm, unhide B2⟩
    · by_cases k5 : x.kind = 5
      · obtain ⟨n, q, hn, hq, en, eq⟩ := h5 k5
        have e0 := sfull_put m k x k5
        rw [en, eq, Int.toNat_natCast, Int.toNat_natCast] at e0
        have E := hide e0
        have C1 := hide fun W (bW : Below w.heap.size w W) => sfind_any ((unhide HF).below bW) x.dir x.name
        rw [en] at C1
        have C2 := hide fun W (bW : Below w.heap.size w W) => cData_any bc cs ds m k (unhide HF).now (unhide HF).disk W ((unhide HF).below bW).row
        have hpt := hide fun W (h : HasAt W bc 0 m) => h.part n q hn hq
        have SD := hide (unhide HS _ ((Below.refl (w.alloc (.cells (stpA x) 37)).heap.size (w.alloc (.cells (stpA x) 37))).drew))
        generalize Img.sfull m k x = fl at E ⊢
        generalize Img.freeData m k = fd at E C2
        generalize m.part n q = pt at E hpt
        obtain ⟨kind, dir, toDir, p, name, tu, text⟩ := x
        have kk : kind = 5 := k5
        subst kk
        have kp : p = (q : Int) := eq
        subst kp
        clear S0 h5 k1 k24 k5 en e0 eq
        have BD := hide ((unhide BEL).drew)
        have XLT := hide (show w.heap.size < (w.alloc (.cells (stpA ⟨5, dir, toDir, (q : Int), name, tu, text⟩) 37)).drew.heap.size from by simp [World.drew])
        go_enter Tryz.func59, Tryz.ntmps59
        go_wp2_with fail
        by_cases hpn : pt < 0
        · have U1 := hide (show decide (pt < 0) = true by simpa using hpn)
          have E1 := hide (show fl = decide (fd < 0) by rw [unhide E, unhide U1, Bool.true_and])
          clear hpn E
          refine wp_region_held_drew (S := FS bf bc w.heap.size m ⟨5, dir, toDir, (q : Int), name, tu, text⟩) (by kernel_rfl) (unhide SD) (fun hS => ?_)
          refine tkP (i := 0) (oi := ⟨some 41, .move (.tmp 0), 42, "soft.go:139", #[], none⟩) (v := .pointer (some ⟨bf, 0, none⟩)) hS ?_
          try simp only [Act.put, z1, z2, z3]
          refine tkP (i := 1) (oi := ⟨some 42, .nilCheck (.tmp 41), 0, "soft.go:139", #[⟨0, .data⟩], none⟩) (v := .pointer (some ⟨bf, 0, none⟩)) hS ?_
          try simp only [Act.put, z1, z2, z3]
          refine tkP (i := 2) (oi := ⟨some 43, .fieldAddr 55 (.tmp 42) 0, 0, "soft.go:139", #[⟨1, .data⟩], none⟩) (v := .pointer (some ⟨bf, 0, none⟩)) hS ?_
          try simp only [Act.put, z1, z2, z3]
          refine tkH (i := 3) (oi := ⟨some 44, .load 53 (.tmp 43), 53, "soft.go:139", #[⟨2, .data⟩], none⟩) (v := .pointer (some ⟨bc, 0, none⟩)) (fun W h => Op1.ld_ptr (.tmp 43) (by kernel_rfl) (by kernel_rfl) W (h.1)) hS ?_
          try simp only [Act.put, z1, z2, z3]
          refine tkP (i := 4) (oi := ⟨some 45, .move (.tmp 0), 42, "soft.go:139", #[], none⟩) (v := .pointer (some ⟨bf, 0, none⟩)) hS ?_
          try simp only [Act.put, z1, z2, z3]
          refine tkP (i := 5) (oi := ⟨some 46, .fieldAddr 37 (.tmp 3) 1, 0, "soft.go:139", #[], none⟩) (v := .pointer (some ⟨w.heap.size, 1, none⟩)) hS ?_
          try simp only [Act.put, z1, z2, z3]
          refine tkH (i := 6) (oi := ⟨some 47, .load 3 (.tmp 46), 3, "soft.go:139", #[⟨5, .data⟩], none⟩) (v := .int .i64 dir) (fun W h => Op1.ld_int (.tmp 46) (by kernel_rfl) (by kernel_rfl) W (h.2.1 1 _ rfl)) hS ?_
          try simp only [Act.put, z1, z2, z3]
          refine tkP (i := 7) (oi := ⟨some 48, .fieldAddr 37 (.tmp 3) 4, 0, "soft.go:139", #[], none⟩) (v := .pointer (some ⟨w.heap.size, 4, none⟩)) hS ?_
          try simp only [Act.put, z1, z2, z3]
          refine tkH (i := 8) (oi := ⟨some 49, .load 9 (.tmp 48), 9, "soft.go:139", #[⟨7, .data⟩], none⟩) (v := .string name) (fun W h => Op1.ld_str (.tmp 48) (by kernel_rfl) (by kernel_rfl) W (h.2.1 4 _ rfl)) hS ?_
          try simp only [Act.put, z1, z2, z3]
          refine tkP (i := 10) (oi := ⟨some 51, .fieldAddr 37 (.tmp 3) 3, 0, "soft.go:139", #[], none⟩) (v := .pointer (some ⟨w.heap.size, 3, none⟩)) hS ?_
          try simp only [Act.put, z1, z2, z3]
          refine tkH (i := 11) (oi := ⟨some 52, .load 3 (.tmp 51), 3, "soft.go:139", #[⟨10, .data⟩], none⟩) (v := .int .i64 (q : Int)) (fun W h => Op1.ld_int (.tmp 51) (by kernel_rfl) (by kernel_rfl) W (h.2.1 3 _ rfl)) hS ?_
          try simp only [Act.put, z1, z2, z3]
          refine tkP (i := 12) (oi := ⟨some 53, .nilCheck (.tmp 44), 0, "soft.go:139", #[⟨3, .data⟩], none⟩) (v := .pointer (some ⟨bc, 0, none⟩)) hS ?_
          try simp only [Act.put, z1, z2, z3]
          refine tkP (i := 13) (oi := ⟨some 54, .fieldAddr 57 (.tmp 53) 0, 0, "soft.go:139", #[⟨12, .data⟩], none⟩) (v := .pointer (some ⟨bc, 0, none⟩)) hS ?_
          try simp only [Act.put, z1, z2, z3]
          refine tkP (i := 14) (oi := ⟨some 55, .fieldAddr 34 (.tmp 54) 0, 0, "soft.go:139", #[⟨13, .data⟩], none⟩) (v := .pointer (some ⟨bc, 0, none⟩)) hS ?_
          try simp only [Act.put, z1, z2, z3]
          generalize World.drew _ = W0 at hS BD XLT ⊢
          refine wpAnyH_ready (rs := [9]) (by kernel_rfl) (by simp) ?_
          refine AllReadyH.cons (o := ⟨some 50, .call { callee := .value (.func 55), args := #[.tmp 45, .tmp 47, .tmp 49], argTypes := #[42, 3, 9] }, 3, "soft.go:139", #[⟨4, .data⟩, ⟨6, .data⟩, ⟨8, .data⟩], none⟩) rfl (fun K hK => ?_) AllReadyH.nil
          rw [if_pos (by kernel_rfl)]
          go_simp
          refine (unhide C1 W0 (unhide BD)).mono ?_
          rintro e w1 ⟨rfl, e9⟩
          rw [e9]
          clear e9 w1
          go_wp2_with fail
          refine hK.out _ _ (hS) (fun hS1 => ?_)
          clear hK K
          try simp only [Act.put, z1, z2, z3]
          refine tkH (i := 15) (oi := ⟨some 56, .indexAddr 25 (.tmp 55) (.tmp 50), 0, "soft.go:139", #[⟨14, .data⟩, ⟨9, .data⟩], none⟩) (v := .pointer (some ⟨bc, n * 5, none⟩)) (fun W h => Op1.ix_ino (.tmp 55) (.tmp 50) (by kernel_rfl) (by kernel_rfl) (by kernel_rfl) (hn) W) hS1 ?_
          try simp only [Act.put, z1, z2, z3]
          refine tkP (i := 16) (oi := ⟨some 57, .fieldAddr 24 (.tmp 56) 3, 0, "soft.go:139", #[⟨15, .data⟩], none⟩) (v := .pointer (some ⟨bc, n * 5 + 3, none⟩)) hS1 ?_
          try simp only [Act.put, z1, z2, z3]
          refine tkH (i := 17) (oi := ⟨some 58, .indexAddr 22 (.tmp 57) (.tmp 52), 0, "soft.go:139", #[⟨16, .data⟩, ⟨11, .data⟩], none⟩) (v := .pointer (some ⟨bc, n * 5 + 3 + q, none⟩)) (fun W h => Op1.ix_part (.tmp 57) (.tmp 52) (by kernel_rfl) (by kernel_rfl) (by kernel_rfl) (hq) W) hS1 ?_
          try simp only [Act.put, z1, z2, z3]
          refine tkH (i := 18) (oi := ⟨some 59, .load 3 (.tmp 58), 3, "soft.go:139", #[⟨17, .data⟩], none⟩) (v := .int .i64 pt) (fun W h => Op1.ld_int (.tmp 58) (by kernel_rfl) (by kernel_rfl) W (by have := unhide hpt W h.2.2; rw [Nat.zero_add] at this; exact this)) hS1 ?_
          try simp only [Act.put, z1, z2, z3]
          refine tkH (i := 19) (oi := ⟨some 60, .binOp .lss 3 (.tmp 59) (.const (.int .i64 0)) 3, 4, "soft.go:139", #[⟨18, .data⟩], none⟩) (v := .bool true) (fun W h => (by rw [← unhide U1]; exact Op1.lss0 (.tmp 59) (by kernel_rfl) (by kernel_rfl) (by kernel_rfl) W)) hS1 ?_
          try simp only [Act.put, z1, z2, z3]
          refine tkP (i := 20) (oi := ⟨some 61, .move (.tmp 60), 4, "soft.go:139", #[⟨19, .data⟩, ⟨9, .chain⟩], none⟩) (v := .bool true) hS1 ?_
          try simp only [Act.put, z1, z2, z3]
          refine tkP (i := 21) (oi := ⟨some 62, .move (.tmp 0), 42, "soft.go:139", #[⟨20, .guard⟩], some (20, true)⟩) (v := .pointer (some ⟨bf, 0, none⟩)) hS1 ?_
          try simp only [Act.put, z1, z2, z3]
          refine tkP (i := 22) (oi := ⟨some 63, .nilCheck (.tmp 62), 0, "soft.go:139", #[⟨21, .data⟩, ⟨20, .guard⟩], some (20, true)⟩) (v := .pointer (some ⟨bf, 0, none⟩)) hS1 ?_
          try simp only [Act.put, z1, z2, z3]
          refine tkP (i := 23) (oi := ⟨some 64, .fieldAddr 55 (.tmp 63) 0, 0, "soft.go:139", #[⟨22, .data⟩, ⟨20, .guard⟩], some (20, true)⟩) (v := .pointer (some ⟨bf, 0, none⟩)) hS1 ?_
          try simp only [Act.put, z1, z2, z3]
          refine tkH (i := 24) (oi := ⟨some 65, .load 53 (.tmp 64), 53, "soft.go:139", #[⟨23, .data⟩, ⟨20, .guard⟩], some (20, true)⟩) (v := .pointer (some ⟨bc, 0, none⟩)) (fun W h => Op1.ld_ptr (.tmp 64) (by kernel_rfl) (by kernel_rfl) W (h.1)) hS1 ?_
          try simp only [Act.put, z1, z2, z3]
          refine wpAnyH_ready (rs := [25]) (by kernel_rfl) (by simp) ?_
          refine AllReadyH.cons (o := ⟨some 66, .call { callee := .value (.func 86), args := #[.tmp 65], argTypes := #[53] }, 3, "soft.go:139", #[⟨24, .data⟩, ⟨20, .chain⟩, ⟨20, .guard⟩], some (20, true)⟩) rfl (fun K hK => ?_) AllReadyH.nil
          rw [if_pos (by kernel_rfl)]
          go_simp
          refine (unhide C2 W0 (unhide BD)).mono ?_
          rintro e w2 ⟨rfl, b2⟩
          have B2 := hide ((unhide BD).trans (b2.mono (unhide BD).size))
          go_wp2_with fail
          refine hK.out _ _ (hS1.below (Nat.lt_of_lt_of_le (unhide HF).flt (unhide BD).size) (unhide XLT) b2) (fun hS2 => ?_)
          clear hK K
          try simp only [Act.put, z1, z2, z3]
          refine tkH (i := 26) (oi := ⟨some 67, .binOp .lss 3 (.tmp 66) (.const (.int .i64 0)) 3, 4, "soft.go:139", #[⟨25, .data⟩, ⟨20, .guard⟩], some (20, true)⟩) (v := .bool (decide (fd < 0))) (fun W h => Op1.lss0 (.tmp 66) (by kernel_rfl) (by kernel_rfl) (by kernel_rfl) W) hS2 ?_
          try simp only [Act.put, z1, z2, z3]
          refine tkP (i := 27) (oi := ⟨some 68, .pick (.tmp 61) (.tmp 67) (.const (.bool false)), 4, "soft.go:139", #[⟨20, .data⟩, ⟨26, .data⟩], none⟩) (v := .bool (decide (fd < 0))) hS2 ?_
          try simp only [Act.put, z1, z2, z3]
          refine tkP (i := 28) (oi := ⟨some 4, .assign (.tmp 68), 4, "soft.go:139", #[⟨27, .data⟩, ⟨25, .chain⟩, ⟨0, .phase⟩, ⟨1, .phase⟩, ⟨2, .phase⟩, ⟨3, .phase⟩, ⟨4, .phase⟩, ⟨5, .phase⟩, ⟨6, .phase⟩, ⟨7, .phase⟩, ⟨8, .phase⟩, ⟨9, .phase⟩, ⟨10, .phase⟩, ⟨11, .phase⟩, ⟨12, .phase⟩, ⟨13, .phase⟩, ⟨14, .phase⟩, ⟨15, .phase⟩, ⟨16, .phase⟩, ⟨17, .phase⟩, ⟨18, .phase⟩, ⟨19, .phase⟩, ⟨20, .phase⟩, ⟨21, .phase⟩, ⟨22, .phase⟩, ⟨23, .phase⟩, ⟨24, .phase⟩, ⟨25, .phase⟩, ⟨26, .phase⟩, ⟨27, .phase⟩], none⟩) (v := .bool (decide (fd < 0))) hS2 ?_
          try simp only [Act.put, z1, z2, z3]
          refine wpAnyH_done (by kernel_rfl) ?_ _
          clear hS hS1 hS2
          go_wp2_with fail
          go_ret
          exact ⟨ret_bool (unhide E1).symm, unhide B2⟩
        · have U1 := hide (show decide (pt < 0) = false by simpa using hpn)
          have E1 := hide (show fl = false by rw [unhide E, unhide U1, Bool.false_and])
          clear hpn E
          refine wp_region_held_drew (S := FS bf bc w.heap.size m ⟨5, dir, toDir, (q : Int), name, tu, text⟩) (by kernel_rfl) (unhide SD) (fun hS => ?_)
          refine tkP (i := 0) (oi := ⟨some 41, .move (.tmp 0), 42, "soft.go:139", #[], none⟩) (v := .pointer (some ⟨bf, 0, none⟩)) hS ?_
          try simp only [Act.put, z1, z2, z3]
          refine tkP (i := 1) (oi := ⟨some 42, .nilCheck (.tmp 41), 0, "soft.go:139", #[⟨0, .data⟩], none⟩) (v := .pointer (some ⟨bf, 0, none⟩)) hS ?_
          try simp only [Act.put, z1, z2, z3]
          refine tkP (i := 2) (oi := ⟨some 43, .fieldAddr 55 (.tmp 42) 0, 0, "soft.go:139", #[⟨1, .data⟩], none⟩) (v := .pointer (some ⟨bf, 0, none⟩)) hS ?_
          try simp only [Act.put, z1, z2, z3]
          refine tkH (i := 3) (oi := ⟨some 44, .load 53 (.tmp 43), 53, "soft.go:139", #[⟨2, .data⟩], none⟩) (v := .pointer (some ⟨bc, 0, none⟩)) (fun W h => Op1.ld_ptr (.tmp 43) (by kernel_rfl) (by kernel_rfl) W (h.1)) hS ?_
          try simp only [Act.put, z1, z2, z3]
          refine tkP (i := 4) (oi := ⟨some 45, .move (.tmp 0), 42, "soft.go:139", #[], none⟩) (v := .pointer (some ⟨bf, 0, none⟩)) hS ?_
          try simp only [Act.put, z1, z2, z3]
          refine tkP (i := 5) (oi := ⟨some 46, .fieldAddr 37 (.tmp 3) 1, 0, "soft.go:139", #[], none⟩) (v := .pointer (some ⟨w.heap.size, 1, none⟩)) hS ?_
          try simp only [Act.put, z1, z2, z3]
          refine tkH (i := 6) (oi := ⟨some 47, .load 3 (.tmp 46), 3, "soft.go:139", #[⟨5, .data⟩], none⟩) (v := .int .i64 dir) (fun W h => Op1.ld_int (.tmp 46) (by kernel_rfl) (by kernel_rfl) W (h.2.1 1 _ rfl)) hS ?_
          try simp only [Act.put, z1, z2, z3]
          refine tkP (i := 7) (oi := ⟨some 48, .fieldAddr 37 (.tmp 3) 4, 0, "soft.go:139", #[], none⟩) (v := .pointer (some ⟨w.heap.size, 4, none⟩)) hS ?_
          try simp only [Act.put, z1, z2, z3]
          refine tkH (i := 8) (oi := ⟨some 49, .load 9 (.tmp 48), 9, "soft.go:139", #[⟨7, .data⟩], none⟩) (v := .string name) (fun W h => Op1.ld_str (.tmp 48) (by kernel_rfl) (by kernel_rfl) W (h.2.1 4 _ rfl)) hS ?_
          try simp only [Act.put, z1, z2, z3]
          refine tkP (i := 10) (oi := ⟨some 51, .fieldAddr 37 (.tmp 3) 3, 0, "soft.go:139", #[], none⟩) (v := .pointer (some ⟨w.heap.size, 3, none⟩)) hS ?_
          try simp only [Act.put, z1, z2, z3]
          refine tkH (i := 11) (oi := ⟨some 52, .load 3 (.tmp 51), 3, "soft.go:139", #[⟨10, .data⟩], none⟩) (v := .int .i64 (q : Int)) (fun W h => Op1.ld_int (.tmp 51) (by kernel_rfl) (by kernel_rfl) W (h.2.1 3 _ rfl)) hS ?_
          try simp only [Act.put, z1, z2, z3]
          refine tkP (i := 12) (oi := ⟨some 53, .nilCheck (.tmp 44), 0, "soft.go:139", #[⟨3, .data⟩], none⟩) (v := .pointer (some ⟨bc, 0, none⟩)) hS ?_
          try simp only [Act.put, z1, z2, z3]
          refine tkP (i := 13) (oi := ⟨some 54, .fieldAddr 57 (.tmp 53) 0, 0, "soft.go:139", #[⟨12, .data⟩], none⟩) (v := .pointer (some ⟨bc, 0, none⟩)) hS ?_
          try simp only [Act.put, z1, z2, z3]
          refine tkP (i := 14) (oi := ⟨some 55, .fieldAddr 34 (.tmp 54) 0, 0, "soft.go:139", #[⟨13, .data⟩], none⟩) (v := .pointer (some ⟨bc, 0, none⟩)) hS ?_
          try simp only [Act.put, z1, z2, z3]
          generalize World.drew _ = W0 at hS BD ⊢
          refine wpAnyH_ready (rs := [9]) (by kernel_rfl) (by simp) ?_
          refine AllReadyH.cons (o := ⟨some 50, .call { callee := .value (.func 55), args := #[.tmp 45, .tmp 47, .tmp 49], argTypes := #[42, 3, 9] }, 3, "soft.go:139", #[⟨4, .data⟩, ⟨6, .data⟩, ⟨8, .data⟩], none⟩) rfl (fun K hK => ?_) AllReadyH.nil
          rw [if_pos (by kernel_rfl)]
          go_simp
          refine (unhide C1 W0 (unhide BD)).mono ?_
          rintro e w1 ⟨rfl, e9⟩
          rw [e9]
          clear e9 w1
          go_wp2_with fail
          refine hK.out _ _ (hS) (fun hS1 => ?_)
          clear hK K
          try simp only [Act.put, z1, z2, z3]
          refine tkH (i := 15) (oi := ⟨some 56, .indexAddr 25 (.tmp 55) (.tmp 50), 0, "soft.go:139", #[⟨14, .data⟩, ⟨9, .data⟩], none⟩) (v := .pointer (some ⟨bc, n * 5, none⟩)) (fun W h => Op1.ix_ino (.tmp 55) (.tmp 50) (by kernel_rfl) (by kernel_rfl) (by kernel_rfl) (hn) W) hS1 ?_
          try simp only [Act.put, z1, z2, z3]
          refine tkP (i := 16) (oi := ⟨some 57, .fieldAddr 24 (.tmp 56) 3, 0, "soft.go:139", #[⟨15, .data⟩], none⟩) (v := .pointer (some ⟨bc, n * 5 + 3, none⟩)) hS1 ?_
          try simp only [Act.put, z1, z2, z3]
          refine tkH (i := 17) (oi := ⟨some 58, .indexAddr 22 (.tmp 57) (.tmp 52), 0, "soft.go:139", #[⟨16, .data⟩, ⟨11, .data⟩], none⟩) (v := .pointer (some ⟨bc, n * 5 + 3 + q, none⟩)) (fun W h => Op1.ix_part (.tmp 57) (.tmp 52) (by kernel_rfl) (by kernel_rfl) (by kernel_rfl) (hq) W) hS1 ?_
          try simp only [Act.put, z1, z2, z3]
          refine tkH (i := 18) (oi := ⟨some 59, .load 3 (.tmp 58), 3, "soft.go:139", #[⟨17, .data⟩], none⟩) (v := .int .i64 pt) (fun W h => Op1.ld_int (.tmp 58) (by kernel_rfl) (by kernel_rfl) W (by have := unhide hpt W h.2.2; rw [Nat.zero_add] at this; exact this)) hS1 ?_
          try simp only [Act.put, z1, z2, z3]
          refine tkH (i := 19) (oi := ⟨some 60, .binOp .lss 3 (.tmp 59) (.const (.int .i64 0)) 3, 4, "soft.go:139", #[⟨18, .data⟩], none⟩) (v := .bool false) (fun W h => (by rw [← unhide U1]; exact Op1.lss0 (.tmp 59) (by kernel_rfl) (by kernel_rfl) (by kernel_rfl) W)) hS1 ?_
          try simp only [Act.put, z1, z2, z3]
          refine tkP (i := 20) (oi := ⟨some 61, .move (.tmp 60), 4, "soft.go:139", #[⟨19, .data⟩, ⟨9, .chain⟩], none⟩) (v := .bool false) hS1 ?_
          try simp only [Act.put, z1, z2, z3]
          refine wpAnyH_take (i := 21) (oi := ⟨some 62, .move (.tmp 0), 42, "soft.go:139", #[⟨20, .guard⟩], some (20, true)⟩) (v := undef) rfl (by kernel_rfl) (by kernel_rfl) (by kernel_rfl) (fun _ _ _ h => h) (Or.inr ⟨by kernel_rfl, rfl⟩) hS1 ?_
          try simp only [Act.put, z1, z2, z3]
          refine wpAnyH_take (i := 22) (oi := ⟨some 63, .nilCheck (.tmp 62), 0, "soft.go:139", #[⟨21, .data⟩, ⟨20, .guard⟩], some (20, true)⟩) (v := undef) rfl (by kernel_rfl) (by kernel_rfl) (by kernel_rfl) (fun _ _ _ h => h) (Or.inr ⟨by kernel_rfl, rfl⟩) hS1 ?_
          try simp only [Act.put, z1, z2, z3]
          refine wpAnyH_take (i := 23) (oi := ⟨some 64, .fieldAddr 55 (.tmp 63) 0, 0, "soft.go:139", #[⟨22, .data⟩, ⟨20, .guard⟩], some (20, true)⟩) (v := undef) rfl (by kernel_rfl) (by kernel_rfl) (by kernel_rfl) (fun _ _ _ h => h) (Or.inr ⟨by kernel_rfl, rfl⟩) hS1 ?_
          try simp only [Act.put, z1, z2, z3]
          refine wpAnyH_take (i := 24) (oi := ⟨some 65, .load 53 (.tmp 64), 53, "soft.go:139", #[⟨23, .data⟩, ⟨20, .guard⟩], some (20, true)⟩) (v := undef) rfl (by kernel_rfl) (by kernel_rfl) (by kernel_rfl) (fun _ _ _ h => h) (Or.inr ⟨by kernel_rfl, rfl⟩) hS1 ?_
          try simp only [Act.put, z1, z2, z3]
          refine wpAnyH_take (i := 25) (oi := ⟨some 66, .call { callee := .value (.func 86), args := #[.tmp 65], argTypes := #[53] }, 3, "soft.go:139", #[⟨24, .data⟩, ⟨20, .chain⟩, ⟨20, .guard⟩], some (20, true)⟩) (v := undef) rfl (by kernel_rfl) (by kernel_rfl) (by kernel_rfl) (fun _ _ _ h => h) (Or.inr ⟨by kernel_rfl, rfl⟩) hS1 ?_
          try simp only [Act.put, z1, z2, z3]
          refine wpAnyH_take (i := 26) (oi := ⟨some 67, .binOp .lss 3 (.tmp 66) (.const (.int .i64 0)) 3, 4, "soft.go:139", #[⟨25, .data⟩, ⟨20, .guard⟩], some (20, true)⟩) (v := undef) rfl (by kernel_rfl) (by kernel_rfl) (by kernel_rfl) (fun _ _ _ h => h) (Or.inr ⟨by kernel_rfl, rfl⟩) hS1 ?_
          try simp only [Act.put, z1, z2, z3]
          refine tkP (i := 27) (oi := ⟨some 68, .pick (.tmp 61) (.tmp 67) (.const (.bool false)), 4, "soft.go:139", #[⟨20, .data⟩, ⟨26, .data⟩], none⟩) (v := .bool false) hS1 ?_
          try simp only [Act.put, z1, z2, z3]
          refine tkP (i := 28) (oi := ⟨some 4, .assign (.tmp 68), 4, "soft.go:139", #[⟨27, .data⟩, ⟨25, .chain⟩, ⟨0, .phase⟩, ⟨1, .phase⟩, ⟨2, .phase⟩, ⟨3, .phase⟩, ⟨4, .phase⟩, ⟨5, .phase⟩, ⟨6, .phase⟩, ⟨7, .phase⟩, ⟨8, .phase⟩, ⟨9, .phase⟩, ⟨10, .phase⟩, ⟨11, .phase⟩, ⟨12, .phase⟩, ⟨13, .phase⟩, ⟨14, .phase⟩, ⟨15, .phase⟩, ⟨16, .phase⟩, ⟨17, .phase⟩, ⟨18, .phase⟩, ⟨19, .phase⟩, ⟨20, .phase⟩, ⟨21, .phase⟩, ⟨22, .phase⟩, ⟨23, .phase⟩, ⟨24, .phase⟩, ⟨25, .phase⟩, ⟨26, .phase⟩, ⟨27, .phase⟩], none⟩) (v := .bool false) hS1 ?_
          try simp only [Act.put, z1, z2, z3]
          refine wpAnyH_done (by kernel_rfl) ?_ _
          clear hS hS1
          go_wp2_with fail
          go_ret
          exact ⟨ret_bool (unhide E1).symm, unhide BD⟩
      · have E := hide (sfull_else m k x ⟨k1, fun z => k24 (.inl z), fun z => k24 (.inr z), k5⟩)
        generalize Img.sfull m k x = fl at E ⊢
        obtain ⟨kind, dir, toDir, p, name, tu, text⟩ := x
        have z1 : (kind == 1) = false := by simpa using k1
        have z2 : (kind == 2) = false := by have : kind ≠ 2 := fun z => k24 (.inl z); simpa using this
        have z4 : (kind == 4) = false := by have : kind ≠ 4 := fun z => k24 (.inr z); simpa using this
        have z5 : (kind == 5) = false := by simpa using k5
        clear S0 h5 k1 k24 k5
        go_enter Tryz.func59, Tryz.ntmps59
        go_wp2_with fail
        go_ret
        exact ⟨ret_bool (unhide E).symm, unhide BEL⟩
end
end Go.Proofs.YtmbpckmpnnmnmabGreat
namespace Go.Proofs.YtmbpckmpnnmnmabGreat
open Go.RowKit
open Idl (Stp chk stpA)
section
variable {w0 w w' : World} {bf bc : Nat} {cs ds rows rows' : Array Value} {m k : Img} {last : Int}
theorem Fm.row' (h : Fm w0 w bf bc rows last) (rows' : Array Value) : Fm w0 (w.setRow bc rows') bf bc rows' last := by
  have hoth : ∀ i, i ≠ bc → (w.setRow bc rows').heap[i]? = w.heap[i]? := fun i hi => setRow_other _ _ _ _ hi
  have hsz : (w.setRow bc rows').heap.size = w.heap.size := by simp [World.setRow]
  exact ⟨by rw [hoth _ h.ne]; exact h.root, setRow_heap w bc _ _ _ _ h.row, h.ne, h.chg.trans (own' := fun i => i = bc) ⟨rfl, rfl, rfl, by rw [hsz]; exact Nat.le_refl _, fun i _ hn => hoth i hn⟩ (fun i hi => .inl (.inr hi))⟩
theorem splice5 (h : cs.size = 94) {n : Nat} (hn : n < 8) (i : Ino) : splice (cs ++ ds) (n * 5) #[.bool i.live, .int .i64 i.stamp, .int .i64 i.links, .int .i64 i.p0, .int .i64 i.p1] = put5v cs n i ++ ds := by
  refine Array.ext_getElem? fun j => ?_
  rw [splice_get (by simp; omega)]
  have e5 : (put5v cs n i).size = 94 := by unfold put5v; simp [h]
  rw [Array.getElem?_append, Array.getElem?_append, e5, h]
  unfold put5v
  simp only [List.size_toArray, List.length_cons, List.length_nil]
  by_cases h9 : j < 94
  · rw [if_pos h9, if_pos h9, set5_get (by omega)]
    by_cases a1 : j < n * 5
    · rw [if_pos a1, if_neg (by omega), if_neg (by omega), if_neg (by omega), if_neg (by omega), if_neg (by omega)]
    · rw [if_neg a1]
      by_cases a2 : j < n * 5 + 5
      · rw [if_pos (by omega)]
        have : j = n * 5 ∨ j = n * 5 + 1 ∨ j = n * 5 + 2 ∨ j = n * 5 + 3 ∨ j = n * 5 + 4 := by omega
        rcases this with rfl | rfl | rfl | rfl | rfl
        · rw [if_pos rfl, Nat.sub_self]; rfl
        · rw [if_neg (by omega), if_pos rfl, Nat.add_sub_cancel_left]; rfl
        · rw [if_neg (by omega), if_neg (by omega), if_pos rfl, Nat.add_sub_cancel_left]; rfl
        · rw [if_neg (by omega), if_neg (by omega), if_neg (by omega), if_pos rfl, Nat.add_sub_cancel_left]; rfl
        · rw [if_neg (by omega), if_neg (by omega), if_neg (by omega), if_neg (by omega), if_pos rfl, Nat.add_sub_cancel_left]; rfl
      · rw [if_neg (by omega), if_neg (by omega), if_neg (by omega), if_neg (by omega), if_neg (by omega), if_neg (by omega)]
  · rw [if_neg h9, if_neg h9, if_neg (by omega), if_neg (by omega)]
theorem splice3 (h : cs.size = 94) {d s : Nat} (hd : d < 3) (hs : s < 4) (e : Ent) : splice (cs ++ ds) (40 + d * 12 + s * 3) #[.string e.name, .int .i64 e.ino, .int .i64 e.est] = put3v cs d s e ++ ds := by
  refine Array.ext_getElem? fun j => ?_
  rw [splice_get (by simp; omega)]
  have e5 : (put3v cs d s e).size = 94 := by unfold put3v; simp [h]
  rw [Array.getElem?_append, Array.getElem?_append, e5, h]
  unfold put3v
  simp only [List.size_toArray, List.length_cons, List.length_nil]
  obtain ⟨o, ho⟩ : ∃ o, o = 40 + d * 12 + s * 3 := ⟨_, rfl⟩
  rw [← ho]
  have ho' : o + 3 ≤ 94 := by omega
  by_cases h9 : j < 94
  · rw [if_pos h9, if_pos h9, set3_get (by omega)]
    by_cases a1 : j < o
    · rw [if_pos a1, if_neg (by omega), if_neg (by omega), if_neg (by omega)]
    · rw [if_neg a1]
      by_cases a2 : j < o + 3
      · rw [if_pos (by omega)]
        have : j = o ∨ j = o + 1 ∨ j = o + 2 := by omega
        rcases this with rfl | rfl | rfl
        · rw [if_pos rfl, Nat.sub_self]; rfl
        · rw [if_neg (by omega), if_pos rfl, Nat.add_sub_cancel_left]; rfl
        · rw [if_neg (by omega), if_neg (by omega), if_pos rfl, Nat.add_sub_cancel_left]; rfl
      · rw [if_neg (by omega), if_neg (by omega), if_neg (by omega), if_neg (by omega)]
  · rw [if_neg h9, if_neg h9, if_neg (by omega), if_neg (by omega)]
theorem splice2 (h : cs.size = 94) {x : Nat} (hx : x < 9) (o : Int) (t : ByteArray) : splice (cs ++ ds) (76 + x * 2) #[.int .i64 o, .string t] = put2v cs x o t ++ ds := by
  refine Array.ext_getElem? fun j => ?_
  rw [splice_get (by simp; omega)]
  have e5 : (put2v cs x o t).size = 94 := by unfold put2v; simp [h]
  rw [Array.getElem?_append, Array.getElem?_append, e5, h]
  unfold put2v
  simp only [List.size_toArray, List.length_cons, List.length_nil]
  obtain ⟨q, hq⟩ : ∃ q, q = 76 + x * 2 := ⟨_, rfl⟩
  rw [← hq]
  have hq' : q + 2 ≤ 94 := by omega
  by_cases h9 : j < 94
  · rw [if_pos h9, if_pos h9, set2_get (by omega)]
    by_cases a1 : j < q
    · rw [if_pos a1, if_neg (by omega), if_neg (by omega)]
    · rw [if_neg a1]
      by_cases a2 : j < q + 2
      · rw [if_pos (by omega)]
        have : j = q ∨ j = q + 1 := by omega
        rcases this with rfl | rfl
        · rw [if_pos rfl, Nat.sub_self]; rfl
        · rw [if_neg (by omega), if_pos rfl, Nat.add_sub_cancel_left]; rfl
      · rw [if_neg (by omega), if_neg (by omega), if_neg (by omega)]
  · rw [if_neg h9, if_neg h9, if_neg (by omega), if_neg (by omega)]
/-- files that were changed: what is to be now -/
def Fd (w0 w : World) (bf bc : Nat) (ds : Array Value) (m : Img) (last : Int) : Prop := ∃ cs, Fm w0 w bf bc (cs ++ ds) last ∧ IsImg cs m
theorem Fl.fd (h : Fl w bf bc cs ds m k last) : Fd w w bf bc ds m last := ⟨cs, h.fm, h.now⟩
theorem Fd.fl (h : Fd w0 w bf bc ds m last) (hk : IsImg ds k) : ∃ cs, Fl w bf bc cs ds m k last := by
  obtain ⟨cs, h1, h2⟩ := h
  exact ⟨cs, h1.fl h2 hk⟩
theorem Fd.call (h : Fd w0 w bf bc ds m last) (hb : Below w.heap.size w w') : Fd w0 w' bf bc ds m last := by
  obtain ⟨cs, h1, h2⟩ := h
  exact ⟨cs, h1.call hb, h2⟩
theorem Fd.trans {w1 : World} {m1 : Img} {l1 : Int} (h : Fd w0 w1 bf bc ds m1 l1) (h2 : Fd w1 w bf bc ds m last) : Fd w0 w bf bc ds m last := by
  obtain ⟨cs1, a1, a2⟩ := h
  obtain ⟨cs2, b1, b2⟩ := h2
  exact ⟨cs2, ⟨b1.root, b1.row, b1.ne, a1.chg.trans b1.chg (fun i hi => .inl hi)⟩, b2⟩
theorem Fd.ino (h : Fm w0 w bf bc (cs ++ ds) last) (hm : IsImg cs m) {n : Nat} (hn : n < 8) (i : Ino) : Fd w0 (w.setRow bc (splice (cs ++ ds) (n * 5) #[.bool i.live, .int .i64 i.stamp, .int .i64 i.links, .int .i64 i.p0, .int .i64 i.p1])) bf bc ds (m.putIno n i) last := by
  rw [splice5 hm.size hn]
  exact ⟨_, h.row' _, hm.putIno hn i⟩
theorem Fd.ent (h : Fm w0 w bf bc (cs ++ ds) last) (hm : IsImg cs m) {d s : Nat} (hd : d < 3) (hs : s < 4) (e : Ent) (he : e.name.size ≤ maxLen) : Fd w0 (w.setRow bc (splice (cs ++ ds) (40 + d * 12 + s * 3) #[.string e.name, .int .i64 e.ino, .int .i64 e.est])) bf bc ds (m.putEnt d s e) last := by
  rw [splice3 hm.size hd hs]
  exact ⟨_, h.row' _, hm.putEnt hd hs e he⟩
theorem Fd.dat (h : Fm w0 w bf bc (cs ++ ds) last) (hm : IsImg cs m) {x : Nat} (hx : x < 9) (o : Int) (t : ByteArray) (ht : t.size ≤ maxLen) : Fd w0 (w.setRow bc (splice (cs ++ ds) (76 + x * 2) #[.int .i64 o, .string t])) bf bc ds (m.putData x o t) last := by
  rw [splice2 hm.size hx]
  exact ⟨_, h.row' _, hm.putData hx o t ht⟩
theorem Fd.part (h : Fm w0 w bf bc (cs ++ ds) last) (hm : IsImg cs m) {n p : Nat} (hn : n < 8) (hp : p < 2) (v : Int) : Fd w0 (w.setCell ⟨bc, n * 5 + 3 + p, none⟩ (.int .i64 v)) bf bc ds (m.setPart n p v) last :=
  ⟨_, h.put hm.size (by omega) _, hm.putPart hn hp v⟩
theorem Fd.lnk (h : Fm w0 w bf bc (cs ++ ds) last) (hm : IsImg cs m) {n : Nat} (hn : n < 8) (v : Int) : Fd w0 (w.setCell ⟨bc, n * 5 + 2, none⟩ (.int .i64 v)) bf bc ds (m.putIno n ⟨m.live n, m.stamp n, v, m.part n 0, m.part n 1⟩) last :=
  ⟨_, h.put hm.size (by omega) _, hm.putLinks hn v⟩
theorem sz_ino : (Tryz.prog.info? 24).map (·.size) = some 5 := by kernel_rfl
theorem sz_ent : (Tryz.prog.info? 27).map (·.size) = some 3 := by kernel_rfl
theorem sz_dat : (Tryz.prog.info? 31).map (·.size) = some 2 := by kernel_rfl
end
end Go.Proofs.YtmbpckmpnnmnmabGreat
namespace Go.Proofs.YtmbpckmpnnmnmabGreat
open Go.RowKit
open Idl (Stp chk stpA)
theorem ld_ino {o : Oper} {ρ : Operand → Value} (x : Operand) (ho : o.op = .load 24 x) {g : Nat} (hx : ρ x = .pointer (some ⟨g, 0, none⟩)) {b : Bool} {s l p q : Int} (w : World) (h : w.heap[g]? = some (.cells #[.bool b, .int .i64 s, .int .i64 l, .int .i64 p, .int .i64 q] 24)) : (execOp ρ o).run Tryz.prog w = .ok (.value (.agg #[.bool b, .int .i64 s, .int .i64 l, .int .i64 p, .int .i64 q])) w := by
  have c0 : w.cell? ⟨g, 0, none⟩ = some (.bool b) := by rw [cell_of_row w g 0 _ _ _ h]; rfl
  have c1 : w.cell? ⟨g, 1, none⟩ = some (.int .i64 s) := by rw [cell_of_row w g 1 _ _ _ h]; rfl
  have c2 : w.cell? ⟨g, 2, none⟩ = some (.int .i64 l) := by rw [cell_of_row w g 2 _ _ _ h]; rfl
  have c3 : w.cell? ⟨g, 3, none⟩ = some (.int .i64 p) := by rw [cell_of_row w g 3 _ _ _ h]; rfl
  have c4 : w.cell? ⟨g, 4, none⟩ = some (.int .i64 q) := by rw [cell_of_row w g 4 _ _ _ h]; rfl
  clear h
  unfold execOp
  rw [ho]
  go_simp
section
variable {w w0 w1 : World} {bf bc : Nat} {cs ds rows : Array Value} {m k : Img} {last : Int}
/-- a box of one's own beside the files: their two blocks stay as they are when it is written -/
theorem Fm.box (h : Fm w0 w bf bc rows last) {g : Nat} (hg : w0.heap.size ≤ g) (hgf : g ≠ bf) (hgc : g ≠ bc) (c : Array Value) : Fm w0 (w.setRow g c) bf bc rows last := by
  have hoth : ∀ i, i ≠ g → (w.setRow g c).heap[i]? = w.heap[i]? := fun i hi => setRow_other _ _ _ _ hi
  have hsz : (w.setRow g c).heap.size = w.heap.size := by simp [World.setRow]
  exact ⟨by rw [hoth _ (Ne.symm hgf)]; exact h.root, by rw [hoth _ (Ne.symm hgc)]; exact h.row, h.ne, h.chg.trans (own' := fun i => i = g) ⟨rfl, rfl, rfl, by rw [hsz]; exact Nat.le_refl _, fun i _ hn => hoth i hn⟩ (fun i hi => .inr (by rw [hi]; exact hg))⟩
theorem Fm.size (h : Fm w0 w bf bc rows last) : w0.heap.size ≤ w.heap.size := h.chg.size
theorem box_set {W : World} {g : Nat} {c : Array Value} {ty : TypeId} (h : W.heap[g]? = some (.cells c ty)) (o : Nat) (v : Value) : (W.setCell ⟨g, o, none⟩ v).heap[g]? = some (.cells (c.setIfInBounds o v) ty) := by
  rw [setCell_eq_setRow W g o _ _ _ v h, setRow_heap W g _ _ _ _ h]
theorem Fm.boxSet (h : Fm w0 w bf bc rows last) {g : Nat} {c : Array Value} {ty : TypeId} (hr : w.heap[g]? = some (.cells c ty)) (hg : w0.heap.size ≤ g) (hgf : g ≠ bf) (hgc : g ≠ bc) (o : Nat) (v : Value) : Fm w0 (w.setCell ⟨g, o, none⟩ v) bf bc rows last := by
  rw [setCell_eq_setRow w g o _ _ _ v hr]
  exact h.box hg hgf hgc _
set_option maxHeartbeats 2000000 in
set_option maxRecDepth 100000 in
theorem sstart_any (h : Fl w bf bc cs ds m k last) {n : Nat} (hn : n < 8) (he : Img.freeIno m k = (n : Int)) (hl0 : 0 ≤ last) (hla : last < 4611686018427387904) :
    Calls Tryz.prog 61 #[.pointer (some ⟨bf, 0, none⟩)] w fun e w' => e = .returned (.int .i64 ((n : Nat) : Int)) ∧ Fd w w' bf bc ds (Img.started m k last) (last + 1) := by
  have C1 := hide (cInode_any bc cs ds m k h.now h.disk w h.row)
  rw [he] at C1
  have e1 : Img.started m k last = m.putIno n ⟨true, last + 1, 0, -1, -1⟩ := by unfold Img.started; rw [he, Int.toNat_natCast]
  rw [e1]
  have HM := hide h.now
  have FM0 := hide h.fm
  have p0 := h.ptr
  have l0 := h.flt
  have hw : IntKind.i64.wrap (last + 1) = last + 1 := IntWalk.i64_in _ (by omega)
  have HLT := hide (And.intro h.flt h.clt)
  clear h he e1
  go_enter Tryz.func61, Tryz.ntmps61
  go_wp2_with fail
  refine (unhide C1).mono ?_
  rintro e w1 ⟨rfl, b1⟩
  have FM1 := hide ((unhide FM0).call b1)
  have q1 := (unhide FM1).lst
  have z1 := (unhide FM1).frozenF 1
  have l1 := (unhide FM1).flt
  clear b1 p0 l0
  go_wp2_with fail
  have FM2 := hide ((unhide FM1).setLast (last + 1))
  clear q1 z1 l1 FM1
  generalize w1.setCell ⟨bf, 1, none⟩ (.int .i64 (last + 1)) = w2 at FM2 ⊢
  refine (free_any w2).mono ?_
  rintro e w3 ⟨rfl, b3⟩
  have FM3 := hide ((unhide FM2).call b3)
  have GT := hide (And.intro (Nat.lt_of_lt_of_le (unhide HLT).1 (Nat.le_trans (unhide FM2).size b3.size)) (Nat.lt_of_lt_of_le (unhide HLT).2 (Nat.le_trans (unhide FM2).size b3.size)))
  clear b3 FM2
  go_wp2_with (refine wpList_store_row rfl 24 _ _ rfl w3.heap.size #[.bool false, .int .i64 0, .int .i64 0, .int .i64 (-1), .int .i64 (-1)] rfl rfl 24 #[.bool false, .int .i64 0, .int .i64 0, .int .i64 0, .int .i64 0] (heap_alloc_last w3 _) sz_ino rfl (by kernel_rfl) ?_)
  have ROW := hide (setRow_heap _ _ _ #[.bool false, .int .i64 0, .int .i64 0, .int .i64 (-1), .int .i64 (-1)] _ _ (heap_alloc_last w3 (.cells #[.bool false, .int .i64 0, .int .i64 0, .int .i64 0, .int .i64 0] 24)))
  have FM4 := hide (((unhide FM3).call ((Below.refl _ _).alloc (Nat.le_refl _) (.cells #[.bool false, .int .i64 0, .int .i64 0, .int .i64 0, .int .i64 0] 24))).box (g := w3.heap.size) (unhide FM3).size (Nat.ne_of_gt (unhide GT).1) (Nat.ne_of_gt (unhide GT).2) #[.bool false, .int .i64 0, .int .i64 0, .int .i64 (-1), .int .i64 (-1)])
  have NE := hide (And.intro (Nat.ne_of_gt (unhide GT).1) (And.intro (Nat.ne_of_gt (unhide GT).2) (unhide FM3).size))
  generalize (w3.alloc (.cells #[.bool false, .int .i64 0, .int .i64 0, .int .i64 0, .int .i64 0] 24)).setRow w3.heap.size #[.bool false, .int .i64 0, .int .i64 0, .int .i64 (-1), .int .i64 (-1)] = X at ROW FM4 ⊢
  generalize w3.heap.size = gb at ROW NE ⊢
  clear FM3 GT
  have FM5 := hide ((unhide FM4).call (Below.refl _ _).drew)
  have ROW5 := hide (show X.drew.heap[gb]? = _ from unhide ROW)
  clear FM4 ROW
  refine wp_region_held_drew (S := fun W => W.cell? ⟨bf, 1, none⟩ = some (.int .i64 (last + 1))) (by kernel_rfl) ((unhide FM5).lst) (fun hS => ?_)
  refine tkP (i := 0) (oi := { dst := some 18, op := Op.move (Operand.tmp 0), type := 42, pos := "soft.go:156", after := #[{ on := 5, ground := Ground.gcOnly Departure.lateStores }], guard := none }) (v := .pointer (some ⟨bf, 0, none⟩)) hS ?_
  try simp only [Act.put, z1, z2, z3]
  refine tkP (i := 1) (oi := { dst := some 19, op := Op.nilCheck (Operand.tmp 18), type := 0, pos := "soft.go:156", after := #[⟨0, .data⟩, { on := 5, ground := Ground.gcOnly Departure.lateStores }], guard := none }) (v := .pointer (some ⟨bf, 0, none⟩)) hS ?_
  try simp only [Act.put, z1, z2, z3]
  refine tkP (i := 2) (oi := { dst := some 20, op := Op.fieldAddr 55 (Operand.tmp 19) 1, type := 0, pos := "soft.go:156", after := #[⟨1, .data⟩, { on := 5, ground := Ground.gcOnly Departure.lateStores }], guard := none }) (v := .pointer (some ⟨bf, 1, none⟩)) hS ?_
  try simp only [Act.put, z1, z2, z3]
  refine tkH (i := 3) (oi := { dst := some 21, op := Op.load 3 (Operand.tmp 20), type := 3, pos := "soft.go:156", after := #[⟨2, .data⟩, { on := 5, ground := Ground.gcOnly Departure.lateStores }], guard := none }) (v := .int .i64 (last + 1)) (fun W h => Op1.ld_int (.tmp 20) (by kernel_rfl) (by kernel_rfl) W (h)) hS ?_
  try simp only [Act.put, z1, z2, z3]
  refine tkP (i := 4) (oi := { dst := some 22, op := Op.fieldAddr 24 (Operand.tmp 4) 0, type := 0, pos := "soft.go:156", after := #[{ on := 0, ground := Ground.textOnly Departure.lateStores }, { on := 1, ground := Ground.textOnly Departure.lateStores }, { on := 2, ground := Ground.textOnly Departure.lateStores }, { on := 3, ground := Ground.textOnly Departure.lateStores }], guard := none }) (v := .pointer (some ⟨gb, 0, none⟩)) hS ?_
  try simp only [Act.put, z1, z2, z3]
  generalize World.drew _ = W0 at hS FM5 ROW5 ⊢
  refine wpAnyH_ready (rs := [5]) (by kernel_rfl) (by simp) ?_
  refine AllReadyH.cons (o := { dst := none, op := Op.store 4 (Operand.tmp 22) (Operand.const (Value.bool true)), type := 0, pos := "soft.go:156", after := #[⟨4, .data⟩, { on := 0, ground := Ground.textOnly Departure.lateStores }, { on := 1, ground := Ground.textOnly Departure.lateStores }, { on := 2, ground := Ground.textOnly Departure.lateStores }, { on := 3, ground := Ground.textOnly Departure.lateStores }], guard := none }) rfl (fun K hK => ?_) AllReadyH.nil
  rw [if_pos (by kernel_rfl)]
  refine Op1.st_bool (v := true) (.tmp 22) (.const (.bool true)) (by kernel_rfl) rfl (by kernel_rfl) (by kernel_rfl) (by rw [cell_of_row W0 gb 0 _ _ _ (unhide ROW5)]; rfl) (frozen_of_row W0 gb 0 _ _ (unhide ROW5)) ?_
  have ROW6 := hide (box_set (unhide ROW5) 0 (.bool true))
  have FM6 := hide ((unhide FM5).boxSet (unhide ROW5) (unhide NE).2.2 (unhide NE).1 (unhide NE).2.1 0 (.bool true))
  refine hK.out _ _ ((unhide FM6).lst) (fun hS1 => ?_)
  clear hK K
  try simp only [Act.put, z1, z2, z3]
  generalize W0.setCell ⟨gb, 0, none⟩ (.bool true) = W1 at hS1 ROW6 FM6 ⊢
  refine tkP (i := 6) (oi := ⟨some 23, .fieldAddr 24 (.tmp 4) 1, 0, "soft.go:156", #[⟨0, .phase⟩, ⟨1, .phase⟩, ⟨2, .phase⟩, ⟨3, .phase⟩, ⟨4, .phase⟩, ⟨5, .phase⟩], none⟩) (v := .pointer (some ⟨gb, 1, none⟩)) hS1 ?_
  try simp only [Act.put, z1, z2, z3]
  refine wpAnyH_ready (rs := [7]) (by kernel_rfl) (by simp) ?_
  refine AllReadyH.cons (o := ⟨none, .store 3 (.tmp 23) (.tmp 21), 0, "soft.go:156", #[⟨6, .data⟩, ⟨3, .data⟩, ⟨5, .chain⟩, ⟨0, .phase⟩, ⟨1, .phase⟩, ⟨2, .phase⟩, ⟨3, .phase⟩, ⟨4, .phase⟩, ⟨5, .phase⟩], none⟩) rfl (fun K hK => ?_) AllReadyH.nil
  rw [if_pos (by kernel_rfl)]
  refine Op1.st_int (v := last + 1) (.tmp 23) (.tmp 21) (by kernel_rfl) rfl (by kernel_rfl) (by kernel_rfl) (by rw [cell_of_row W1 gb 1 _ _ _ (unhide ROW6)]; rfl) (frozen_of_row W1 gb 1 _ _ (unhide ROW6)) ?_
  have ROW7 := hide (box_set (unhide ROW6) 1 (.int .i64 (last + 1)))
  have FM7 := hide ((unhide FM6).boxSet (unhide ROW6) (unhide NE).2.2 (unhide NE).1 (unhide NE).2.1 1 (.int .i64 (last + 1)))
  refine hK.out _ _ ((unhide FM7).lst) (fun hS2 => ?_)
  clear hK K
  try simp only [Act.put, z1, z2, z3]
  generalize W1.setCell ⟨gb, 1, none⟩ (.int .i64 (last + 1)) = W2 at hS2 ROW7 FM7 ⊢
  refine wpAnyH_done (by kernel_rfl) ?_ _
  clear hS hS1 hS2 ROW5 ROW6 FM5 FM6
  go_wp2_with fail
  have FM8 := hide ((unhide FM7).call (Below.refl _ _).drew)
  have ROW8 := hide (show W2.drew.heap[gb]? = some (.cells #[.bool true, .int .i64 (last + 1), .int .i64 0, .int .i64 (-1), .int .i64 (-1)] 24) from unhide ROW7)
  clear FM7 ROW7
  refine wp_region_F (S := fun W => W.cell? ⟨bf, 0, none⟩ = some (.pointer (some ⟨bc, 0, none⟩)) ∧ W.heap[gb]? = some (.cells #[.bool true, .int .i64 (last + 1), .int .i64 0, .int .i64 (-1), .int .i64 (-1)] 24)) 10 (by kernel_rfl) (⟨(unhide FM8).ptr, unhide ROW8⟩) (fun hS => ?_)
  refine wpAnyF_take (i := 0) (oi := ⟨some 24, .move (.tmp 0), 42, "soft.go:157", #[], none⟩) (v := .pointer (some ⟨bf, 0, none⟩)) rfl (by kernel_rfl) (by kernel_rfl) (by kernel_rfl) (by kernel_rfl) (fun _ _ _ h => h) (Or.inl ⟨by kernel_rfl, fun W h => (by first | kernel_rfl | go_simp)⟩) hS ?_
  try simp only [Act.put, z1, z2, z3]
  refine wpAnyF_take (i := 1) (oi := ⟨some 25, .nilCheck (.tmp 24), 0, "soft.go:157", #[⟨0, .data⟩], none⟩) (v := .pointer (some ⟨bf, 0, none⟩)) rfl (by kernel_rfl) (by kernel_rfl) (by kernel_rfl) (by kernel_rfl) (fun _ _ _ h => h) (Or.inl ⟨by kernel_rfl, fun W h => (by first | kernel_rfl | go_simp)⟩) hS ?_
  try simp only [Act.put, z1, z2, z3]
  refine wpAnyF_take (i := 2) (oi := ⟨some 26, .fieldAddr 55 (.tmp 25) 0, 0, "soft.go:157", #[⟨1, .data⟩], none⟩) (v := .pointer (some ⟨bf, 0, none⟩)) rfl (by kernel_rfl) (by kernel_rfl) (by kernel_rfl) (by kernel_rfl) (fun _ _ _ h => h) (Or.inl ⟨by kernel_rfl, fun W h => (by first | kernel_rfl | go_simp)⟩) hS ?_
  try simp only [Act.put, z1, z2, z3]
  refine wpAnyF_take (i := 3) (oi := ⟨some 27, .load 53 (.tmp 26), 53, "soft.go:157", #[⟨2, .data⟩], none⟩) (v := .pointer (some ⟨bc, 0, none⟩)) rfl (by kernel_rfl) (by kernel_rfl) (by kernel_rfl) (by kernel_rfl) (fun _ _ _ h => h) (Or.inl ⟨by kernel_rfl, fun W h => Op1.ld_ptr (.tmp 26) (by kernel_rfl) (by kernel_rfl) W (h.1)⟩) hS ?_
  try simp only [Act.put, z1, z2, z3]
  refine wpAnyF_take (i := 4) (oi := ⟨some 28, .move (.tmp 3), 3, "soft.go:157", #[], none⟩) (v := .int .i64 ((n : Nat) : Int)) rfl (by kernel_rfl) (by kernel_rfl) (by kernel_rfl) (by kernel_rfl) (fun _ _ _ h => h) (Or.inl ⟨by kernel_rfl, fun W h => (by first | kernel_rfl | go_simp)⟩) hS ?_
  try simp only [Act.put, z1, z2, z3]
  refine wpAnyF_take (i := 5) (oi := ⟨some 29, .load 24 (.tmp 4), 24, "soft.go:157", #[], none⟩) (v := .agg #[.bool true, .int .i64 (last + 1), .int .i64 0, .int .i64 (-1), .int .i64 (-1)]) rfl (by kernel_rfl) (by kernel_rfl) (by kernel_rfl) (by kernel_rfl) (fun _ _ _ h => h) (Or.inl ⟨by kernel_rfl, fun W h => ld_ino (.tmp 4) (by kernel_rfl) (by kernel_rfl) W h.2⟩) hS ?_
  try simp only [Act.put, z1, z2, z3]
  refine wpAnyF_free (i := 6) (oi := ⟨some 30, .nilCheck (.tmp 27), 0, "soft.go:157", #[⟨3, .data⟩], none⟩) (v := .pointer (some ⟨bc, 0, none⟩)) rfl (by kernel_rfl) (by kernel_rfl) (by kernel_rfl) (by kernel_rfl) (fun _ _ _ h => h) (Or.inl ⟨by kernel_rfl, fun W _ => (by first | kernel_rfl | go_simp)⟩) hS ?_
  try simp only [Act.put, z1, z2, z3]
  refine wpAnyF_free (i := 7) (oi := ⟨some 31, .fieldAddr 57 (.tmp 30) 0, 0, "soft.go:157", #[⟨6, .data⟩], none⟩) (v := .pointer (some ⟨bc, 0, none⟩)) rfl (by kernel_rfl) (by kernel_rfl) (by kernel_rfl) (by kernel_rfl) (fun _ _ _ h => h) (Or.inl ⟨by kernel_rfl, fun W _ => (by first | kernel_rfl | go_simp)⟩) hS ?_
  try simp only [Act.put, z1, z2, z3]
  refine wpAnyF_free (i := 8) (oi := ⟨some 32, .fieldAddr 34 (.tmp 31) 0, 0, "soft.go:157", #[⟨7, .data⟩], none⟩) (v := .pointer (some ⟨bc, 0, none⟩)) rfl (by kernel_rfl) (by kernel_rfl) (by kernel_rfl) (by kernel_rfl) (fun _ _ _ h => h) (Or.inl ⟨by kernel_rfl, fun W _ => (by first | kernel_rfl | go_simp)⟩) hS ?_
  try simp only [Act.put, z1, z2, z3]
  refine wpAnyF_take (i := 9) (oi := ⟨some 33, .indexAddr 25 (.tmp 32) (.tmp 28), 0, "soft.go:157", #[⟨8, .data⟩, ⟨4, .data⟩, ⟨0, .phase⟩, ⟨1, .phase⟩, ⟨2, .phase⟩, ⟨3, .phase⟩, ⟨4, .phase⟩, ⟨5, .phase⟩], none⟩) (v := .pointer (some ⟨bc, n * 5, none⟩)) rfl (by kernel_rfl) (by kernel_rfl) (by kernel_rfl) (by kernel_rfl) (fun _ _ _ h => h) (Or.inl ⟨by kernel_rfl, fun W h => Op1.ix_ino (.tmp 32) (.tmp 28) (by kernel_rfl) (by kernel_rfl) (by kernel_rfl) (hn) W⟩) hS ?_
  try simp only [Act.put, z1, z2, z3]
  generalize World.drew _ = W3 at hS FM8 ⊢
  refine wpAnyF_last (o := ⟨none, .store 24 (.tmp 33) (.tmp 29), 0, "soft.go:157", #[⟨9, .data⟩, ⟨5, .data⟩, ⟨0, .phase⟩, ⟨1, .phase⟩, ⟨2, .phase⟩, ⟨3, .phase⟩, ⟨4, .phase⟩, ⟨5, .phase⟩], none⟩) (by kernel_rfl) rfl (by kernel_rfl) (by kernel_rfl) (fun K hK => ?_)
  refine Op1.st_part (cells := #[.bool true, .int .i64 (last + 1), .int .i64 0, .int .i64 (-1), .int .i64 (-1)]) (o0 := n * 5) 24 (.tmp 33) (.tmp 29) (by kernel_rfl) rfl (by kernel_rfl) (by kernel_rfl) (unhide FM8).row sz_ino (by have := (unhide HM).size; simp; omega) (by kernel_rfl) ?_
  refine hK.out _ _ ?_
  clear hK K
  try simp only [Act.put, z1, z2, z3]
  refine wpAnyF_done (by kernel_rfl) ?_ _
  have DONE := hide (Fd.ino (unhide FM8) (unhide HM) hn ⟨true, last + 1, 0, -1, -1⟩)
  clear hS
  go_wp2_with fail
  go_ret
  exact ⟨rfl, unhide DONE⟩
end
end Go.Proofs.YtmbpckmpnnmnmabGreat
