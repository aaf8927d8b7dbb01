/-
  The walk of (*soft.Files).Do. (Written by gendq.py.)
-/
import Derived.Test.YtfpfpnhpbnnmfadGreatDoorXaw
namespace Go.Proofs.YtfpfpnhpbnnmfadGreatDoor
open Go.RowKit
open Idl (Stp chk stpA)
theorem scode_zero {m k : Img} {x : Stp} (h : Img.scode m k x = 0) : Img.scheck m x = 0 ∧ Img.sfull m k x = false := by
  have h0 : Img.scheck m x = 0 := by
    unfold Img.scode at h
    by_cases e : Img.scheck m x = 0
    · exact e
    · rw [if_pos e] at h; exact absurd h e
  refine ⟨h0, ?_⟩
  unfold Img.scode at h
  rw [if_neg (by rw [h0]; simp)] at h
  cases e : Img.sfull m k x
  · rfl
  · rw [e] at h; simp at h
section
variable {w w0 w1 : World} {bf bc : Nat} {cs ds rows : Array Value} {m k : Img} {last : Int}
theorem links_few {m : Img} (hx : Img.Ex m) {n : Nat} (hn : n < 8) (hl : m.live n = true) : 1 ≤ m.links n ∧ m.links n ≤ 12 := by
  have h := hx.links n hn hl
  have := Img.refs_le m (n : Int)
  omega
theorem full_five {m k : Img} {x : Stp} (hm : m.check = 0) (h : Img.scode m k x = 0) : x.kind = 5 → ∃ n q : Nat, n < 8 ∧ q < 2 ∧ Img.inoOf m x.dir x.name = (n : Int) ∧ x.p = (q : Int) := fun h5 => by
  have t := Img.take h
  obtain ⟨j, n, hT⟩ := Img.there hm (t.old (by omega))
  obtain ⟨p0, p2⟩ := t.part (.inl h5)
  obtain ⟨q, hq⟩ := Int.eq_ofNat_of_zero_le p0
  exact ⟨n, q, hT.n8, by omega, hT.of, hq⟩
theorem five_of_check {m : Img} {x : Stp} (hm : m.check = 0) (h : Img.scheck m x = 0) : x.kind = 5 → ∃ n q : Nat, n < 8 ∧ q < 2 ∧ Img.inoOf m x.dir x.name = (n : Int) ∧ x.p = (q : Int) := fun h5 => by
  have hc : chk x = 0 := by
    unfold Img.scheck at h
    by_cases e : chk x = 0
    · exact e
    · rw [if_pos e] at h; exact absurd h e
  obtain ⟨_, _, _, _, _, a6⟩ := Img.chk_names hc
  have ho : 0 ≤ Img.inoOf m x.dir x.name := by
    unfold Img.scheck at h
    rw [if_neg (by rw [hc]; simp), if_neg (by omega)] at h
    by_cases z : Img.inoOf m x.dir x.name < 0
    · rw [if_pos z] at h; simp at h
    · omega
  obtain ⟨j, n, hT⟩ := Img.there hm ho
  obtain ⟨p0, p2⟩ := a6 (.inl h5)
  obtain ⟨q, hq⟩ := Int.eq_ofNat_of_zero_le p0
  exact ⟨n, q, hT.n8, by omega, hT.of, hq⟩
/-- the boxed step is there still -/
theorem Fd.cell {w0 w : World} {ds : Array Value} {m : Img} {last : Int} (h : Fd w0 w bf bc ds m last) {g j : Nat} (hg : g < w0.heap.size) (h1 : g ≠ bf) (h2 : g ≠ bc) : w.cell? ⟨g, j, none⟩ = w0.cell? ⟨g, j, none⟩ := by
  obtain ⟨_, hm, _⟩ := h
  exact World.cell?_of_block (hm.chg.block g hg (fun z => by rcases z with z | z; exact h1 z; exact h2 z))
theorem Fl.after (h : Fl w bf bc cs ds m k last) {W W' : World} (hb : Below w.heap.size w W) {m' : Img} {l' : Int} (hd : Fd W W' bf bc ds m' l') : Fd w W' bf bc ds m' l' := (h.fd.call hb).trans hd
set_option maxHeartbeats 2000000 in
set_option maxRecDepth 100000 in
theorem sDo_code (h : Fl w bf bc cs ds m k last) (hG : Img.Good m last) (hla : last < 4611686018427387904) (x : Stp) (hn : x.name.size ≤ maxLen) (ht : x.to.size ≤ maxLen) (hx : x.text.size ≤ maxLen) (hc : Img.scode m k x ≠ 0) :
    Calls Tryz.prog 81 #[.pointer (some ⟨bf, 0, none⟩), .agg (stpA x)] w fun e w' => e = .returned (.int .i64 (Img.scode m k x)) ∧ Below w.heap.size w w' := by
  have BEL := hide (show Below w.heap.size w (w.alloc (.cells (stpA x) 84)) from (Below.refl _ w).alloc (Nat.le_refl _) _)
  have C1 := hide (scheck_any (h.below (unhide BEL)) x hn ht hx)
  have HC := hide fun W bW => stp_box w x W bW
  by_cases hk : Img.scheck m x = 0
  · have C2 := hide fun W (bW : Below w.heap.size w W) => sfull_any (h.below bW) hla x (five_of_check hG.ex.ok hk)
    have hf : Img.sfull m k x = true := by
      unfold Img.scode at hc
      rw [if_neg (by rw [hk]; simp)] at hc
      cases e : Img.sfull m k x
      · rw [e] at hc; simp at hc
      · rfl
    have e6 : Img.scode m k x = 6 := by unfold Img.scode; rw [if_neg (by rw [hk]; simp), if_pos hf]
    rw [e6]
    rw [hk] at C1
    rw [hf] at C2
    clear h hG hc hk hf e6
    obtain ⟨kind, dir, toDir, p, name, tu, text⟩ := x
    go_enter Tryz.func81, Tryz.ntmps81
    go_wp2_with fail
    refine (unhide C1).mono ?_
    rintro e w1 ⟨rfl, b1⟩
    have B1 := hide ((unhide BEL).trans (b1.mono (by simp)))
    have d0 := unhide HC w1 b1 0 _ rfl
    have d1 := unhide HC w1 b1 1 _ rfl
    have d2 := unhide HC w1 b1 2 _ rfl
    have d3 := unhide HC w1 b1 3 _ rfl
    have d4 := unhide HC w1 b1 4 _ rfl
    have d5 := unhide HC w1 b1 5 _ rfl
    have d6 := unhide HC w1 b1 6 _ rfl
    clear b1
    go_wp2_with fail
    refine (unhide C2 w1 (unhide B1)).mono ?_
    rintro e w2 ⟨rfl, b2⟩
    have B2 := hide ((unhide B1).trans (b2.mono (unhide B1).size))
    clear b2
    go_wp2_with fail
    go_ret
    exact ⟨rfl, unhide B2⟩
  · have e1 : Img.scode m k x = Img.scheck m x := by unfold Img.scode; rw [if_pos hk]
    rw [e1]
    generalize Img.scheck m x = ck at C1 hk
    have u1 : (ck != 0) = true := by simpa using hk
    clear h hG hc e1 HC
    obtain ⟨kind, dir, toDir, p, name, tu, text⟩ := x
    go_enter Tryz.func81, Tryz.ntmps81
    go_wp2_with fail
    refine (unhide C1).mono ?_
    rintro e w1 ⟨rfl, b1⟩
    have B1 := hide ((unhide BEL).trans (b1.mono (by simp)))
    clear b1
    go_wp2_with fail
    go_ret
    exact ⟨rfl, unhide B1⟩
set_option maxHeartbeats 2000000 in
set_option maxRecDepth 100000 in
theorem sDo_make (h : Fl w bf bc cs ds m k last) (hG : Img.Good m last) (hla : last < 4611686018427387904) (dir toDir p : Int) (name tu text : ByteArray) (hn : name.size ≤ maxLen) (ht : tu.size ≤ maxLen) (hx : text.size ≤ maxLen) (hc : Img.scode m k ⟨1, dir, toDir, p, name, tu, text⟩ = 0) :
    Calls Tryz.prog 81 #[.pointer (some ⟨bf, 0, none⟩), .agg (stpA ⟨1, dir, toDir, p, name, tu, text⟩)] w fun e w' => e = .returned (.int .i64 0) ∧ Fd w w' bf bc ds (Img.sstep m k last ⟨1, dir, toDir, p, name, tu, text⟩) (Img.slast m k last ⟨1, dir, toDir, p, name, tu, text⟩) := by
  have BEL := hide (show Below w.heap.size w (w.alloc (.cells (stpA ⟨1, dir, toDir, p, name, tu, text⟩) 84)) from (Below.refl _ w).alloc (Nat.le_refl _) _)
  have C1 := hide (scheck_any (h.below (unhide BEL)) ⟨1, dir, toDir, p, name, tu, text⟩ hn ht hx)
  have HC := hide fun W bW => stp_box w ⟨1, dir, toDir, p, name, tu, text⟩ W bW
  have C2 := hide fun W (bW : Below w.heap.size w W) => sfull_any (h.below bW) hla ⟨1, dir, toDir, p, name, tu, text⟩ (full_five hG.ex.ok hc)
  rw [(scode_zero hc).1] at C1
  rw [(scode_zero hc).2] at C2
  have HF := hide h
  have tk := Img.take hc
  have hst : Img.sstep m k last ⟨1, dir, toDir, p, name, tu, text⟩ = Img.added (Img.started m k last) k dir name (Img.freeIno m k).toNat := by
    rcases Img.sstep_cases (last := last) hc with ⟨z, e⟩ | ⟨z, e⟩ | ⟨z, e⟩ | ⟨z, e⟩ | ⟨z, e⟩ | ⟨z, e⟩
    all_goals first | exact e | (exfalso; revert z; decide) | (simp at z)
  have hsl : Img.slast m k last ⟨1, dir, toDir, p, name, tu, text⟩ = last + 1 := by unfold Img.slast; first | rw [if_pos ⟨hc, rfl⟩] | rw [if_neg (fun z => by have := z.2; simp at this)]
  rw [hst, hsl]
  obtain ⟨n, s, hC⟩ := Img.comes hG hc rfl
  have d0' : 0 ≤ dir := tk.dir.1
  have d3' : dir < 3 := tk.dir.2
  obtain ⟨dd, rfl⟩ := Int.eq_ofNat_of_zero_le d0'
  have hdd : dd < 3 := by omega
  rw [hC.ino, Int.toNat_natCast]
  have hn8 := hC.n8
  have hs4 := hC.slot.s4
  have HS1 := hide hC.slot'.eq
  have C3 := hide fun W (bW : Below w.heap.size w W) => sstart_any (h.below bW) hC.n8 hC.ino hG.lo hla
  have HL1 := hide (show 0 ≤ (Img.started m k last).links n ∧ (Img.started m k last).links n ≤ 100 by unfold Img.started; rw [hC.ino, Int.toNat_natCast, Img.putIno_links, if_pos rfl]; simp)
  have HK := hide h.disk
  generalize Img.started m k last = m1 at C3 HL1 HS1 ⊢
  clear h hc tk hst hsl hG hC d0' d3'
  go_enter Tryz.func81, Tryz.ntmps81
  go_wp2_with fail
  refine (unhide C1).mono ?_
  rintro e w1 ⟨rfl, b1⟩
  have A1 := hide b1
  have B1 := hide ((unhide BEL).trans (b1.mono (by simp)))
  have d0 := unhide HC w1 b1 0 _ rfl
  have d1 := unhide HC w1 b1 1 _ rfl
  have d2 := unhide HC w1 b1 2 _ rfl
  have d3 := unhide HC w1 b1 3 _ rfl
  have d4 := unhide HC w1 b1 4 _ rfl
  have d5 := unhide HC w1 b1 5 _ rfl
  have d6 := unhide HC w1 b1 6 _ rfl
  clear b1
  go_wp2_with fail
  refine (unhide C2 w1 (unhide B1)).mono ?_
  rintro e w2 ⟨rfl, b2⟩
  clear d0 d1 d2 d3 d4 d5 d6
  have B2 := hide ((unhide B1).trans (b2.mono (unhide B1).size))
  have A2 := hide ((unhide A1).trans (b2.mono (unhide A1).size))
  have d0 := unhide HC w2 (unhide A2) 0 _ rfl
  have d1 := unhide HC w2 (unhide A2) 1 _ rfl
  have d2 := unhide HC w2 (unhide A2) 2 _ rfl
  have d3 := unhide HC w2 (unhide A2) 3 _ rfl
  have d4 := unhide HC w2 (unhide A2) 4 _ rfl
  have d5 := unhide HC w2 (unhide A2) 5 _ rfl
  have d6 := unhide HC w2 (unhide A2) 6 _ rfl
  clear b2 A1 B1 C1 C2
  have AD := hide ((unhide A2).drew)
  have BD := hide ((unhide B2).drew)
  have NE := hide (And.intro (Nat.ne_of_gt (unhide HF).flt) (Nat.ne_of_gt (unhide HF).clt))
  have XLT := hide (show w.heap.size < w2.drew.heap.size from Nat.lt_of_lt_of_le (by simp) (unhide AD).size)
  go_wp2_with fail
  refine wp_region_held_drew (S := fun W => ∀ (j : Nat) (u : Value), (stpA ⟨1, (dd : Int), toDir, p, name, tu, text⟩)[j]? = some u → W.cell? ⟨w.heap.size, j, none⟩ = some u) (by kernel_rfl) (unhide HC _ (unhide AD)) (fun hS => ?_)
  refine wpAnyH_take (i := 0) (oi := { dst := some 19, op := Op.move (Operand.tmp 0), type := 60, pos := "soft.go:46", after := #[], guard := none }) (v := .pointer (some ⟨bf, 0, none⟩)) rfl (by kernel_rfl) (by kernel_rfl) (by kernel_rfl) (fun _ _ _ h => h) (Or.inl ⟨by kernel_rfl, fun W h => (by first | kernel_rfl | go_simp)⟩) hS ?_
  try simp only [Act.put, List.setIfInBounds_toArray, List.set_cons_zero, List.set_cons_succ]
  refine wpAnyH_take (i := 1) (oi := { dst := some 20, op := Op.fieldAddr 84 (Operand.tmp 3) 1, type := 0, pos := "soft.go:46", after := #[], guard := none }) (v := .pointer (some ⟨w.heap.size, 1, none⟩)) rfl (by kernel_rfl) (by kernel_rfl) (by kernel_rfl) (fun _ _ _ h => h) (Or.inl ⟨by kernel_rfl, fun W h => (by first | kernel_rfl | go_simp)⟩) hS ?_
  try simp only [Act.put, List.setIfInBounds_toArray, List.set_cons_zero, List.set_cons_succ]
  refine wpAnyH_take (i := 2) (oi := { dst := some 21, op := Op.load 3 (Operand.tmp 20), type := 3, pos := "soft.go:46", after := #[{ on := 1, ground := Ground.data }], guard := none }) (v := .int .i64 (dd : Int)) rfl (by kernel_rfl) (by kernel_rfl) (by kernel_rfl) (fun _ _ _ h => h) (Or.inl ⟨by kernel_rfl, fun W h => Op1.ld_int (.tmp 20) (by kernel_rfl) (by kernel_rfl) W (h 1 _ rfl)⟩) hS ?_
  try simp only [Act.put, List.setIfInBounds_toArray, List.set_cons_zero, List.set_cons_succ]
  refine wpAnyH_take (i := 3) (oi := { dst := some 22, op := Op.fieldAddr 84 (Operand.tmp 3) 4, type := 0, pos := "soft.go:46", after := #[], guard := none }) (v := .pointer (some ⟨w.heap.size, 4, none⟩)) rfl (by kernel_rfl) (by kernel_rfl) (by kernel_rfl) (fun _ _ _ h => h) (Or.inl ⟨by kernel_rfl, fun W h => (by first | kernel_rfl | go_simp)⟩) hS ?_
  try simp only [Act.put, List.setIfInBounds_toArray, List.set_cons_zero, List.set_cons_succ]
  refine wpAnyH_take (i := 4) (oi := { dst := some 23, op := Op.load 9 (Operand.tmp 22), type := 9, pos := "soft.go:46", after := #[{ on := 3, ground := Ground.data }], guard := none }) (v := .string name) rfl (by kernel_rfl) (by kernel_rfl) (by kernel_rfl) (fun _ _ _ h => h) (Or.inl ⟨by kernel_rfl, fun W h => Op1.ld_str (.tmp 22) (by kernel_rfl) (by kernel_rfl) W (h 4 _ rfl)⟩) hS ?_
  try simp only [Act.put, List.setIfInBounds_toArray, List.set_cons_zero, List.set_cons_succ]
  refine wpAnyH_take (i := 5) (oi := { dst := some 24, op := Op.move (Operand.tmp 0), type := 60, pos := "soft.go:46", after := #[], guard := none }) (v := .pointer (some ⟨bf, 0, none⟩)) rfl (by kernel_rfl) (by kernel_rfl) (by kernel_rfl) (fun _ _ _ h => h) (Or.inl ⟨by kernel_rfl, fun W h => (by first | kernel_rfl | go_simp)⟩) hS ?_
  try simp only [Act.put, List.setIfInBounds_toArray, List.set_cons_zero, List.set_cons_succ]
  generalize World.drew _ = W0 at hS BD XLT ⊢
  refine wpAnyH_ready (rs := [6]) (by kernel_rfl) (by simp) ?_
  refine AllReadyH.cons (o := { dst := some 25, op := Op.call { callee := Callee.value (Operand.func 115), args := #[Operand.tmp 24], argTypes := #[60] }, type := 3, pos := "soft.go:46", after := #[{ on := 5, ground := Ground.data }], guard := none }) rfl (fun K hK => ?_) AllReadyH.nil
  rw [if_pos (by kernel_rfl)]
  go_simp
  refine (unhide C3 W0 (unhide BD)).mono ?_
  rintro e w3 ⟨rfl, f3⟩
  have F3 := hide f3
  obtain ⟨cs3, h3⟩ := f3.fl (unhide HK)
  have C4 := hide (sadd_any h3 hdd hn8 hs4 (unhide HS1) name hn (unhide HL1))
  have XL3 := hide (show w.heap.size < w3.heap.size from by obtain ⟨_, z, _⟩ := f3; exact Nat.lt_of_lt_of_le (unhide XLT) z.size)
  clear f3 h3
  go_wp2_with fail
  refine hK.out _ _ (fun j u hj => ((unhide F3).cell (unhide XLT) (unhide NE).1 (unhide NE).2).trans (hS j u hj)) (fun hS1 => ?_)
  clear hK K
  try simp only [Act.put, List.setIfInBounds_toArray, List.set_cons_zero, List.set_cons_succ]
  refine wpAnyH_ready (rs := [7]) (by kernel_rfl) (by simp) ?_
  refine AllReadyH.cons (o := { dst := some 26, op := Op.call { callee := Callee.value (Operand.func 114), args := #[Operand.tmp 19, Operand.tmp 21, Operand.tmp 23, Operand.tmp 25], argTypes := #[60, 3, 9, 3] }, type := 0, pos := "soft.go:46", after := #[{ on := 0, ground := Ground.data }, { on := 2, ground := Ground.data }, { on := 4, ground := Ground.data }, { on := 6, ground := Ground.data }, { on := 6, ground := Ground.chain }], guard := none }) rfl (fun K hK => ?_) AllReadyH.nil
  rw [if_pos (by kernel_rfl)]
  go_simp
  refine (unhide C4).mono ?_
  rintro e w4 ⟨rfl, f4⟩
  have F4 := hide ((unhide HF).after (unhide BD) ((unhide F3).trans f4))
  have F5 := hide f4
  clear f4
  go_wp2_with fail
  refine hK.out _ _ (fun j u hj => ((unhide F5).cell (unhide XL3) (unhide NE).1 (unhide NE).2).trans (hS1 j u hj)) (fun hS2 => ?_)
  clear hK K
  try simp only [Act.put, List.setIfInBounds_toArray, List.set_cons_zero, List.set_cons_succ]
  refine wpAnyH_done (by kernel_rfl) ?_ _
  clear hS hS1 hS2 F3 F5 C4
  clear d0 d1 d2 d3 d4 d5 d6
  go_wp2_with fail
  go_ret
  exact ⟨rfl, unhide F4⟩
set_option maxHeartbeats 2000000 in
set_option maxRecDepth 100000 in
theorem sDo_link (h : Fl w bf bc cs ds m k last) (hG : Img.Good m last) (hla : last < 4611686018427387904) (dir toDir p : Int) (name tu text : ByteArray) (hn : name.size ≤ maxLen) (ht : tu.size ≤ maxLen) (hx : text.size ≤ maxLen) (hc : Img.scode m k ⟨2, dir, toDir, p, name, tu, text⟩ = 0) :
    Calls Tryz.prog 81 #[.pointer (some ⟨bf, 0, none⟩), .agg (stpA ⟨2, dir, toDir, p, name, tu, text⟩)] w fun e w' => e = .returned (.int .i64 0) ∧ Fd w w' bf bc ds (Img.sstep m k last ⟨2, dir, toDir, p, name, tu, text⟩) (Img.slast m k last ⟨2, dir, toDir, p, name, tu, text⟩) := by
  have BEL := hide (show Below w.heap.size w (w.alloc (.cells (stpA ⟨2, dir, toDir, p, name, tu, text⟩) 84)) from (Below.refl _ w).alloc (Nat.le_refl _) _)
  have C1 := hide (scheck_any (h.below (unhide BEL)) ⟨2, dir, toDir, p, name, tu, text⟩ hn ht hx)
  have HC := hide fun W bW => stp_box w ⟨2, dir, toDir, p, name, tu, text⟩ W bW
  have C2 := hide fun W (bW : Below w.heap.size w W) => sfull_any (h.below bW) hla ⟨2, dir, toDir, p, name, tu, text⟩ (full_five hG.ex.ok hc)
  rw [(scode_zero hc).1] at C1
  rw [(scode_zero hc).2] at C2
  have HF := hide h
  have tk := Img.take hc
  have hst : Img.sstep m k last ⟨2, dir, toDir, p, name, tu, text⟩ = Img.added m k toDir tu (Img.inoOf m dir name).toNat := by
    rcases Img.sstep_cases (last := last) hc with ⟨z, e⟩ | ⟨z, e⟩ | ⟨z, e⟩ | ⟨z, e⟩ | ⟨z, e⟩ | ⟨z, e⟩
    all_goals first | exact e | (exfalso; revert z; decide) | (simp at z)
  have hsl : Img.slast m k last ⟨2, dir, toDir, p, name, tu, text⟩ = last := by unfold Img.slast; first | rw [if_pos ⟨hc, rfl⟩] | rw [if_neg (fun z => by have := z.2; simp at this)]
  rw [hst, hsl]
  obtain ⟨j, n, s, hT, hS, hX⟩ := Img.linked hG hc (.inl rfl)
  have t0 : 0 ≤ toDir := (tk.to (.inl rfl)).1.1
  have t3 : toDir < 3 := (tk.to (.inl rfl)).1.2
  obtain ⟨dd, rfl⟩ := Int.eq_ofNat_of_zero_le t0
  have hdd : dd < 3 := by omega
  rw [show (Img.inoOf m dir name).toNat = n by rw [show Img.inoOf m dir name = (n : Int) from hT.of]; rfl]
  have hn8 := hT.n8
  have hs4 := hS.s4
  have C3 := hide fun W (bW : Below w.heap.size w W) => sfind_any (h.below bW) dir name
  rw [show Img.inoOf m dir name = (n : Int) from hT.of] at C3
  have C4 := hide fun W (bW : Below w.heap.size w W) => sadd_any (h.below bW) hdd hT.n8 hS.s4 hS.eq tu ht (by have := links_few hG.ex hT.n8 hT.live; omega)
  clear h hc tk hst hsl hG hT hS hX t0 t3
  go_enter Tryz.func81, Tryz.ntmps81
  go_wp2_with fail
  refine (unhide C1).mono ?_
  rintro e w1 ⟨rfl, b1⟩
  have A1 := hide b1
  have B1 := hide ((unhide BEL).trans (b1.mono (by simp)))
  have d0 := unhide HC w1 b1 0 _ rfl
  have d1 := unhide HC w1 b1 1 _ rfl
  have d2 := unhide HC w1 b1 2 _ rfl
  have d3 := unhide HC w1 b1 3 _ rfl
  have d4 := unhide HC w1 b1 4 _ rfl
  have d5 := unhide HC w1 b1 5 _ rfl
  have d6 := unhide HC w1 b1 6 _ rfl
  clear b1
  go_wp2_with fail
  refine (unhide C2 w1 (unhide B1)).mono ?_
  rintro e w2 ⟨rfl, b2⟩
  clear d0 d1 d2 d3 d4 d5 d6
  have B2 := hide ((unhide B1).trans (b2.mono (unhide B1).size))
  have A2 := hide ((unhide A1).trans (b2.mono (unhide A1).size))
  have d0 := unhide HC w2 (unhide A2) 0 _ rfl
  have d1 := unhide HC w2 (unhide A2) 1 _ rfl
  have d2 := unhide HC w2 (unhide A2) 2 _ rfl
  have d3 := unhide HC w2 (unhide A2) 3 _ rfl
  have d4 := unhide HC w2 (unhide A2) 4 _ rfl
  have d5 := unhide HC w2 (unhide A2) 5 _ rfl
  have d6 := unhide HC w2 (unhide A2) 6 _ rfl
  clear b2 A1 B1 C1 C2
  have AD := hide ((unhide A2).drew)
  have BD := hide ((unhide B2).drew)
  have NE := hide (And.intro (Nat.ne_of_gt (unhide HF).flt) (Nat.ne_of_gt (unhide HF).clt))
  have XLT := hide (show w.heap.size < w2.drew.heap.size from Nat.lt_of_lt_of_le (by simp) (unhide AD).size)
  go_wp2_with fail
  refine wp_region_held_drew (S := fun W => ∀ (j : Nat) (u : Value), (stpA ⟨2, dir, (dd : Int), p, name, tu, text⟩)[j]? = some u → W.cell? ⟨w.heap.size, j, none⟩ = some u) (by kernel_rfl) (unhide HC _ (unhide AD)) (fun hS => ?_)
  refine wpAnyH_take (i := 0) (oi := { dst := some 29, op := Op.move (Operand.tmp 0), type := 60, pos := "soft.go:48", after := #[], guard := none }) (v := .pointer (some ⟨bf, 0, none⟩)) rfl (by kernel_rfl) (by kernel_rfl) (by kernel_rfl) (fun _ _ _ h => h) (Or.inl ⟨by kernel_rfl, fun W h => (by first | kernel_rfl | go_simp)⟩) hS ?_
  try simp only [Act.put, List.setIfInBounds_toArray, List.set_cons_zero, List.set_cons_succ]
  refine wpAnyH_take (i := 1) (oi := { dst := some 30, op := Op.fieldAddr 84 (Operand.tmp 3) 2, type := 0, pos := "soft.go:48", after := #[], guard := none }) (v := .pointer (some ⟨w.heap.size, 2, none⟩)) rfl (by kernel_rfl) (by kernel_rfl) (by kernel_rfl) (fun _ _ _ h => h) (Or.inl ⟨by kernel_rfl, fun W h => (by first | kernel_rfl | go_simp)⟩) hS ?_
  try simp only [Act.put, List.setIfInBounds_toArray, List.set_cons_zero, List.set_cons_succ]
  refine wpAnyH_take (i := 2) (oi := { dst := some 31, op := Op.load 3 (Operand.tmp 30), type := 3, pos := "soft.go:48", after := #[{ on := 1, ground := Ground.data }], guard := none }) (v := .int .i64 (dd : Int)) rfl (by kernel_rfl) (by kernel_rfl) (by kernel_rfl) (fun _ _ _ h => h) (Or.inl ⟨by kernel_rfl, fun W h => Op1.ld_int (.tmp 30) (by kernel_rfl) (by kernel_rfl) W (h 2 _ rfl)⟩) hS ?_
  try simp only [Act.put, List.setIfInBounds_toArray, List.set_cons_zero, List.set_cons_succ]
  refine wpAnyH_take (i := 3) (oi := { dst := some 32, op := Op.fieldAddr 84 (Operand.tmp 3) 5, type := 0, pos := "soft.go:48", after := #[], guard := none }) (v := .pointer (some ⟨w.heap.size, 5, none⟩)) rfl (by kernel_rfl) (by kernel_rfl) (by kernel_rfl) (fun _ _ _ h => h) (Or.inl ⟨by kernel_rfl, fun W h => (by first | kernel_rfl | go_simp)⟩) hS ?_
  try simp only [Act.put, List.setIfInBounds_toArray, List.set_cons_zero, List.set_cons_succ]
  refine wpAnyH_take (i := 4) (oi := { dst := some 33, op := Op.load 9 (Operand.tmp 32), type := 9, pos := "soft.go:48", after := #[{ on := 3, ground := Ground.data }], guard := none }) (v := .string tu) rfl (by kernel_rfl) (by kernel_rfl) (by kernel_rfl) (fun _ _ _ h => h) (Or.inl ⟨by kernel_rfl, fun W h => Op1.ld_str (.tmp 32) (by kernel_rfl) (by kernel_rfl) W (h 5 _ rfl)⟩) hS ?_
  try simp only [Act.put, List.setIfInBounds_toArray, List.set_cons_zero, List.set_cons_succ]
  refine wpAnyH_take (i := 5) (oi := { dst := some 34, op := Op.move (Operand.tmp 0), type := 60, pos := "soft.go:48", after := #[], guard := none }) (v := .pointer (some ⟨bf, 0, none⟩)) rfl (by kernel_rfl) (by kernel_rfl) (by kernel_rfl) (fun _ _ _ h => h) (Or.inl ⟨by kernel_rfl, fun W h => (by first | kernel_rfl | go_simp)⟩) hS ?_
  try simp only [Act.put, List.setIfInBounds_toArray, List.set_cons_zero, List.set_cons_succ]
  refine wpAnyH_take (i := 6) (oi := { dst := some 35, op := Op.fieldAddr 84 (Operand.tmp 3) 1, type := 0, pos := "soft.go:48", after := #[], guard := none }) (v := .pointer (some ⟨w.heap.size, 1, none⟩)) rfl (by kernel_rfl) (by kernel_rfl) (by kernel_rfl) (fun _ _ _ h => h) (Or.inl ⟨by kernel_rfl, fun W h => (by first | kernel_rfl | go_simp)⟩) hS ?_
  try simp only [Act.put, List.setIfInBounds_toArray, List.set_cons_zero, List.set_cons_succ]
  refine wpAnyH_take (i := 7) (oi := { dst := some 36, op := Op.load 3 (Operand.tmp 35), type := 3, pos := "soft.go:48", after := #[{ on := 6, ground := Ground.data }], guard := none }) (v := .int .i64 dir) rfl (by kernel_rfl) (by kernel_rfl) (by kernel_rfl) (fun _ _ _ h => h) (Or.inl ⟨by kernel_rfl, fun W h => Op1.ld_int (.tmp 35) (by kernel_rfl) (by kernel_rfl) W (h 1 _ rfl)⟩) hS ?_
  try simp only [Act.put, List.setIfInBounds_toArray, List.set_cons_zero, List.set_cons_succ]
  refine wpAnyH_take (i := 8) (oi := { dst := some 37, op := Op.fieldAddr 84 (Operand.tmp 3) 4, type := 0, pos := "soft.go:48", after := #[], guard := none }) (v := .pointer (some ⟨w.heap.size, 4, none⟩)) rfl (by kernel_rfl) (by kernel_rfl) (by kernel_rfl) (fun _ _ _ h => h) (Or.inl ⟨by kernel_rfl, fun W h => (by first | kernel_rfl | go_simp)⟩) hS ?_
  try simp only [Act.put, List.setIfInBounds_toArray, List.set_cons_zero, List.set_cons_succ]
  refine wpAnyH_take (i := 9) (oi := { dst := some 38, op := Op.load 9 (Operand.tmp 37), type := 9, pos := "soft.go:48", after := #[{ on := 8, ground := Ground.data }], guard := none }) (v := .string name) rfl (by kernel_rfl) (by kernel_rfl) (by kernel_rfl) (fun _ _ _ h => h) (Or.inl ⟨by kernel_rfl, fun W h => Op1.ld_str (.tmp 37) (by kernel_rfl) (by kernel_rfl) W (h 4 _ rfl)⟩) hS ?_
  try simp only [Act.put, List.setIfInBounds_toArray, List.set_cons_zero, List.set_cons_succ]
  generalize World.drew _ = W0 at hS BD XLT ⊢
  refine wpAnyH_ready (rs := [10]) (by kernel_rfl) (by simp) ?_
  refine AllReadyH.cons (o := { dst := some 39, op := Op.call { callee := Callee.value (Operand.func 87), args := #[Operand.tmp 34, Operand.tmp 36, Operand.tmp 38], argTypes := #[60, 3, 9] }, type := 3, pos := "soft.go:48", after := #[{ on := 5, ground := Ground.data }, { on := 7, ground := Ground.data }, { on := 9, ground := Ground.data }], guard := none }) rfl (fun K hK => ?_) AllReadyH.nil
  rw [if_pos (by kernel_rfl)]
  go_simp
  refine (unhide C3 W0 (unhide BD)).mono ?_
  rintro e wq ⟨rfl, e9⟩
  rw [e9]
  clear e9 wq
  go_wp2_with fail
  refine hK.out _ _ (hS) (fun hS1 => ?_)
  clear hK K
  try simp only [Act.put, List.setIfInBounds_toArray, List.set_cons_zero, List.set_cons_succ]
  refine wpAnyH_ready (rs := [11]) (by kernel_rfl) (by simp) ?_
  refine AllReadyH.cons (o := { dst := some 40, op := Op.call { callee := Callee.value (Operand.func 114), args := #[Operand.tmp 29, Operand.tmp 31, Operand.tmp 33, Operand.tmp 39], argTypes := #[60, 3, 9, 3] }, type := 0, pos := "soft.go:48", after := #[{ on := 0, ground := Ground.data }, { on := 2, ground := Ground.data }, { on := 4, ground := Ground.data }, { on := 10, ground := Ground.data }, { on := 10, ground := Ground.chain }], guard := none }) rfl (fun K hK => ?_) AllReadyH.nil
  rw [if_pos (by kernel_rfl)]
  go_simp
  refine (unhide C4 W0 (unhide BD)).mono ?_
  rintro e w4 ⟨rfl, f4⟩
  have F4 := hide f4
  clear f4
  go_wp2_with fail
  refine hK.out _ _ (fun j u hj => ((unhide F4).cell (unhide XLT) (unhide NE).1 (unhide NE).2).trans (hS1 j u hj)) (fun hS2 => ?_)
  clear hK K
  try simp only [Act.put, List.setIfInBounds_toArray, List.set_cons_zero, List.set_cons_succ]
  refine wpAnyH_done (by kernel_rfl) ?_ _
  have F5 := hide ((unhide HF).after (unhide BD) (unhide F4))
  clear hS hS1 hS2 F4 C4
  clear d0 d1 d2 d3 d4 d5 d6
  go_wp2_with fail
  go_ret
  exact ⟨rfl, unhide F5⟩
set_option maxHeartbeats 2000000 in
set_option maxRecDepth 100000 in
theorem sDo_unlink (h : Fl w bf bc cs ds m k last) (hG : Img.Good m last) (hla : last < 4611686018427387904) (dir toDir p : Int) (name tu text : ByteArray) (hn : name.size ≤ maxLen) (ht : tu.size ≤ maxLen) (hx : text.size ≤ maxLen) (hc : Img.scode m k ⟨3, dir, toDir, p, name, tu, text⟩ = 0) :
    Calls Tryz.prog 81 #[.pointer (some ⟨bf, 0, none⟩), .agg (stpA ⟨3, dir, toDir, p, name, tu, text⟩)] w fun e w' => e = .returned (.int .i64 0) ∧ Fd w w' bf bc ds (Img.sstep m k last ⟨3, dir, toDir, p, name, tu, text⟩) (Img.slast m k last ⟨3, dir, toDir, p, name, tu, text⟩) := by
  have BEL := hide (show Below w.heap.size w (w.alloc (.cells (stpA ⟨3, dir, toDir, p, name, tu, text⟩) 84)) from (Below.refl _ w).alloc (Nat.le_refl _) _)
  have C1 := hide (scheck_any (h.below (unhide BEL)) ⟨3, dir, toDir, p, name, tu, text⟩ hn ht hx)
  have HC := hide fun W bW => stp_box w ⟨3, dir, toDir, p, name, tu, text⟩ W bW
  have C2 := hide fun W (bW : Below w.heap.size w W) => sfull_any (h.below bW) hla ⟨3, dir, toDir, p, name, tu, text⟩ (full_five hG.ex.ok hc)
  rw [(scode_zero hc).1] at C1
  rw [(scode_zero hc).2] at C2
  have HF := hide h
  have tk := Img.take hc
  have hst : Img.sstep m k last ⟨3, dir, toDir, p, name, tu, text⟩ = Img.dropped m dir name := by
    rcases Img.sstep_cases (last := last) hc with ⟨z, e⟩ | ⟨z, e⟩ | ⟨z, e⟩ | ⟨z, e⟩ | ⟨z, e⟩ | ⟨z, e⟩
    all_goals first | exact e | (exfalso; revert z; decide) | (simp at z)
  have hsl : Img.slast m k last ⟨3, dir, toDir, p, name, tu, text⟩ = last := by unfold Img.slast; first | rw [if_pos ⟨hc, rfl⟩] | rw [if_neg (fun z => by have := z.2; simp at this)]
  rw [hst, hsl]
  obtain ⟨j, n, hT⟩ := Img.there hG.ex.ok (tk.old (by simp))
  have t0 : 0 ≤ dir := tk.dir.1
  obtain ⟨dd, rfl⟩ := Int.eq_ofNat_of_zero_le t0
  have C3 := hide fun W (bW : Below w.heap.size w W) => sdrop_any (h.below bW) name hT (by have := links_few hG.ex hT.n8 hT.live; omega)
  clear h hc tk hst hsl hG hT t0
  go_enter Tryz.func81, Tryz.ntmps81
  go_wp2_with fail
  refine (unhide C1).mono ?_
  rintro e w1 ⟨rfl, b1⟩
  have A1 := hide b1
  have B1 := hide ((unhide BEL).trans (b1.mono (by simp)))
  have d0 := unhide HC w1 b1 0 _ rfl
  have d1 := unhide HC w1 b1 1 _ rfl
  have d2 := unhide HC w1 b1 2 _ rfl
  have d3 := unhide HC w1 b1 3 _ rfl
  have d4 := unhide HC w1 b1 4 _ rfl
  have d5 := unhide HC w1 b1 5 _ rfl
  have d6 := unhide HC w1 b1 6 _ rfl
  clear b1
  go_wp2_with fail
  refine (unhide C2 w1 (unhide B1)).mono ?_
  rintro e w2 ⟨rfl, b2⟩
  clear d0 d1 d2 d3 d4 d5 d6
  have B2 := hide ((unhide B1).trans (b2.mono (unhide B1).size))
  have A2 := hide ((unhide A1).trans (b2.mono (unhide A1).size))
  have d0 := unhide HC w2 (unhide A2) 0 _ rfl
  have d1 := unhide HC w2 (unhide A2) 1 _ rfl
  have d2 := unhide HC w2 (unhide A2) 2 _ rfl
  have d3 := unhide HC w2 (unhide A2) 3 _ rfl
  have d4 := unhide HC w2 (unhide A2) 4 _ rfl
  have d5 := unhide HC w2 (unhide A2) 5 _ rfl
  have d6 := unhide HC w2 (unhide A2) 6 _ rfl
  clear b2 A1 B1 C1 C2
  go_wp2_with fail
  refine (unhide C3 w2 (unhide B2)).mono ?_
  rintro e w4 ⟨rfl, f4⟩
  have F4 := hide ((unhide HF).after (unhide B2) f4)
  clear f4 C3 d0 d1 d2 d3 d4 d5 d6
  go_wp2_with fail
  go_ret
  exact ⟨rfl, unhide F4⟩
set_option maxHeartbeats 2000000 in
set_option maxRecDepth 100000 in
theorem sDo_rename (h : Fl w bf bc cs ds m k last) (hG : Img.Good m last) (hla : last < 4611686018427387904) (dir toDir p : Int) (name tu text : ByteArray) (hn : name.size ≤ maxLen) (ht : tu.size ≤ maxLen) (hx : text.size ≤ maxLen) (hc : Img.scode m k ⟨4, dir, toDir, p, name, tu, text⟩ = 0) :
    Calls Tryz.prog 81 #[.pointer (some ⟨bf, 0, none⟩), .agg (stpA ⟨4, dir, toDir, p, name, tu, text⟩)] w fun e w' => e = .returned (.int .i64 0) ∧ Fd w w' bf bc ds (Img.sstep m k last ⟨4, dir, toDir, p, name, tu, text⟩) (Img.slast m k last ⟨4, dir, toDir, p, name, tu, text⟩) := by
  have BEL := hide (show Below w.heap.size w (w.alloc (.cells (stpA ⟨4, dir, toDir, p, name, tu, text⟩) 84)) from (Below.refl _ w).alloc (Nat.le_refl _) _)
  have C1 := hide (scheck_any (h.below (unhide BEL)) ⟨4, dir, toDir, p, name, tu, text⟩ hn ht hx)
  have HC := hide fun W bW => stp_box w ⟨4, dir, toDir, p, name, tu, text⟩ W bW
  have C2 := hide fun W (bW : Below w.heap.size w W) => sfull_any (h.below bW) hla ⟨4, dir, toDir, p, name, tu, text⟩ (full_five hG.ex.ok hc)
  rw [(scode_zero hc).1] at C1
  rw [(scode_zero hc).2] at C2
  have HF := hide h
  have tk := Img.take hc
  have hst : Img.sstep m k last ⟨4, dir, toDir, p, name, tu, text⟩ = Img.dropped (Img.added m k toDir tu (Img.inoOf m dir name).toNat) dir name := by
    rcases Img.sstep_cases (last := last) hc with ⟨z, e⟩ | ⟨z, e⟩ | ⟨z, e⟩ | ⟨z, e⟩ | ⟨z, e⟩ | ⟨z, e⟩
    all_goals first | exact e | (exfalso; revert z; decide) | (simp at z)
  have hsl : Img.slast m k last ⟨4, dir, toDir, p, name, tu, text⟩ = last := by unfold Img.slast; first | rw [if_pos ⟨hc, rfl⟩] | rw [if_neg (fun z => by have := z.2; simp at this)]
  rw [hst, hsl]
  obtain ⟨j, n, s, hT, hS, hX⟩ := Img.linked hG hc (.inr rfl)
  have t0 : 0 ≤ toDir := (tk.to (.inr rfl)).1.1
  have t3 : toDir < 3 := (tk.to (.inr rfl)).1.2
  obtain ⟨dd, rfl⟩ := Int.eq_ofNat_of_zero_le t0
  have hdd : dd < 3 := by omega
  rw [show (Img.inoOf m dir name).toNat = n by rw [show Img.inoOf m dir name = (n : Int) from hT.of]; rfl]
  have hn8 := hT.n8
  have hs4 := hS.s4
  have C3 := hide fun W (bW : Below w.heap.size w W) => sfind_any (h.below bW) dir name
  rw [show Img.inoOf m dir name = (n : Int) from hT.of] at C3
  have C4 := hide fun W (bW : Below w.heap.size w W) => sadd_any (h.below bW) hdd hT.n8 hS.s4 hS.eq tu ht (by have := links_few hG.ex hT.n8 hT.live; omega)
  have u0 : 0 ≤ dir := tk.dir.1
  obtain ⟨ee, rfl⟩ := Int.eq_ofNat_of_zero_le u0
  have hX' : Img.Ex (Img.added m k (dd : Int) tu n) := hX
  have C5 := hide fun W (cs1 : Array Value) (h1 : Fl W bf bc cs1 ds (Img.added m k (dd : Int) tu n) k last) => sdrop_any h1 name (hT.added hS hX.ok) (by have := links_few hX' hT.n8 (by rw [Img.added_live]; exact hT.live); omega)
  have HK := hide h.disk
  generalize Img.added m k (dd : Int) tu n = m1 at C4 C5 ⊢
  clear h hc tk hst hsl hG hT hS hX hX' t0 t3 u0
  go_enter Tryz.func81, Tryz.ntmps81
  go_wp2_with fail
  refine (unhide C1).mono ?_
  rintro e w1 ⟨rfl, b1⟩
  have A1 := hide b1
  have B1 := hide ((unhide BEL).trans (b1.mono (by simp)))
  have d0 := unhide HC w1 b1 0 _ rfl
  have d1 := unhide HC w1 b1 1 _ rfl
  have d2 := unhide HC w1 b1 2 _ rfl
  have d3 := unhide HC w1 b1 3 _ rfl
  have d4 := unhide HC w1 b1 4 _ rfl
  have d5 := unhide HC w1 b1 5 _ rfl
  have d6 := unhide HC w1 b1 6 _ rfl
  clear b1
  go_wp2_with fail
  refine (unhide C2 w1 (unhide B1)).mono ?_
  rintro e w2 ⟨rfl, b2⟩
  clear d0 d1 d2 d3 d4 d5 d6
  have B2 := hide ((unhide B1).trans (b2.mono (unhide B1).size))
  have A2 := hide ((unhide A1).trans (b2.mono (unhide A1).size))
  have d0 := unhide HC w2 (unhide A2) 0 _ rfl
  have d1 := unhide HC w2 (unhide A2) 1 _ rfl
  have d2 := unhide HC w2 (unhide A2) 2 _ rfl
  have d3 := unhide HC w2 (unhide A2) 3 _ rfl
  have d4 := unhide HC w2 (unhide A2) 4 _ rfl
  have d5 := unhide HC w2 (unhide A2) 5 _ rfl
  have d6 := unhide HC w2 (unhide A2) 6 _ rfl
  clear b2 A1 B1 C1 C2
  have AD := hide ((unhide A2).drew)
  have BD := hide ((unhide B2).drew)
  have NE := hide (And.intro (Nat.ne_of_gt (unhide HF).flt) (Nat.ne_of_gt (unhide HF).clt))
  have XLT := hide (show w.heap.size < w2.drew.heap.size from Nat.lt_of_lt_of_le (by simp) (unhide AD).size)
  go_wp2_with fail
  refine wp_region_held_drew (S := fun W => ∀ (j : Nat) (u : Value), (stpA ⟨4, (ee : Int), (dd : Int), p, name, tu, text⟩)[j]? = some u → W.cell? ⟨w.heap.size, j, none⟩ = some u) (by kernel_rfl) (unhide HC _ (unhide AD)) (fun hS => ?_)
  refine wpAnyH_take (i := 0) (oi := { dst := some 51, op := Op.move (Operand.tmp 0), type := 60, pos := "soft.go:53", after := #[], guard := none }) (v := .pointer (some ⟨bf, 0, none⟩)) rfl (by kernel_rfl) (by kernel_rfl) (by kernel_rfl) (fun _ _ _ h => h) (Or.inl ⟨by kernel_rfl, fun W h => (by first | kernel_rfl | go_simp)⟩) hS ?_
  try simp only [Act.put, List.setIfInBounds_toArray, List.set_cons_zero, List.set_cons_succ]
  refine wpAnyH_take (i := 1) (oi := { dst := some 52, op := Op.fieldAddr 84 (Operand.tmp 3) 2, type := 0, pos := "soft.go:53", after := #[], guard := none }) (v := .pointer (some ⟨w.heap.size, 2, none⟩)) rfl (by kernel_rfl) (by kernel_rfl) (by kernel_rfl) (fun _ _ _ h => h) (Or.inl ⟨by kernel_rfl, fun W h => (by first | kernel_rfl | go_simp)⟩) hS ?_
  try simp only [Act.put, List.setIfInBounds_toArray, List.set_cons_zero, List.set_cons_succ]
  refine wpAnyH_take (i := 2) (oi := { dst := some 53, op := Op.load 3 (Operand.tmp 52), type := 3, pos := "soft.go:53", after := #[{ on := 1, ground := Ground.data }], guard := none }) (v := .int .i64 (dd : Int)) rfl (by kernel_rfl) (by kernel_rfl) (by kernel_rfl) (fun _ _ _ h => h) (Or.inl ⟨by kernel_rfl, fun W h => Op1.ld_int (.tmp 52) (by kernel_rfl) (by kernel_rfl) W (h 2 _ rfl)⟩) hS ?_
  try simp only [Act.put, List.setIfInBounds_toArray, List.set_cons_zero, List.set_cons_succ]
  refine wpAnyH_take (i := 3) (oi := { dst := some 54, op := Op.fieldAddr 84 (Operand.tmp 3) 5, type := 0, pos := "soft.go:53", after := #[], guard := none }) (v := .pointer (some ⟨w.heap.size, 5, none⟩)) rfl (by kernel_rfl) (by kernel_rfl) (by kernel_rfl) (fun _ _ _ h => h) (Or.inl ⟨by kernel_rfl, fun W h => (by first | kernel_rfl | go_simp)⟩) hS ?_
  try simp only [Act.put, List.setIfInBounds_toArray, List.set_cons_zero, List.set_cons_succ]
  refine wpAnyH_take (i := 4) (oi := { dst := some 55, op := Op.load 9 (Operand.tmp 54), type := 9, pos := "soft.go:53", after := #[{ on := 3, ground := Ground.data }], guard := none }) (v := .string tu) rfl (by kernel_rfl) (by kernel_rfl) (by kernel_rfl) (fun _ _ _ h => h) (Or.inl ⟨by kernel_rfl, fun W h => Op1.ld_str (.tmp 54) (by kernel_rfl) (by kernel_rfl) W (h 5 _ rfl)⟩) hS ?_
  try simp only [Act.put, List.setIfInBounds_toArray, List.set_cons_zero, List.set_cons_succ]
  refine wpAnyH_take (i := 5) (oi := { dst := some 56, op := Op.move (Operand.tmp 0), type := 60, pos := "soft.go:53", after := #[], guard := none }) (v := .pointer (some ⟨bf, 0, none⟩)) rfl (by kernel_rfl) (by kernel_rfl) (by kernel_rfl) (fun _ _ _ h => h) (Or.inl ⟨by kernel_rfl, fun W h => (by first | kernel_rfl | go_simp)⟩) hS ?_
  try simp only [Act.put, List.setIfInBounds_toArray, List.set_cons_zero, List.set_cons_succ]
  refine wpAnyH_take (i := 6) (oi := { dst := some 57, op := Op.fieldAddr 84 (Operand.tmp 3) 1, type := 0, pos := "soft.go:53", after := #[], guard := none }) (v := .pointer (some ⟨w.heap.size, 1, none⟩)) rfl (by kernel_rfl) (by kernel_rfl) (by kernel_rfl) (fun _ _ _ h => h) (Or.inl ⟨by kernel_rfl, fun W h => (by first | kernel_rfl | go_simp)⟩) hS ?_
  try simp only [Act.put, List.setIfInBounds_toArray, List.set_cons_zero, List.set_cons_succ]
  refine wpAnyH_take (i := 7) (oi := { dst := some 58, op := Op.load 3 (Operand.tmp 57), type := 3, pos := "soft.go:53", after := #[{ on := 6, ground := Ground.data }], guard := none }) (v := .int .i64 (ee : Int)) rfl (by kernel_rfl) (by kernel_rfl) (by kernel_rfl) (fun _ _ _ h => h) (Or.inl ⟨by kernel_rfl, fun W h => Op1.ld_int (.tmp 57) (by kernel_rfl) (by kernel_rfl) W (h 1 _ rfl)⟩) hS ?_
  try simp only [Act.put, List.setIfInBounds_toArray, List.set_cons_zero, List.set_cons_succ]
  refine wpAnyH_take (i := 8) (oi := { dst := some 59, op := Op.fieldAddr 84 (Operand.tmp 3) 4, type := 0, pos := "soft.go:53", after := #[], guard := none }) (v := .pointer (some ⟨w.heap.size, 4, none⟩)) rfl (by kernel_rfl) (by kernel_rfl) (by kernel_rfl) (fun _ _ _ h => h) (Or.inl ⟨by kernel_rfl, fun W h => (by first | kernel_rfl | go_simp)⟩) hS ?_
  try simp only [Act.put, List.setIfInBounds_toArray, List.set_cons_zero, List.set_cons_succ]
  refine wpAnyH_take (i := 9) (oi := { dst := some 60, op := Op.load 9 (Operand.tmp 59), type := 9, pos := "soft.go:53", after := #[{ on := 8, ground := Ground.data }], guard := none }) (v := .string name) rfl (by kernel_rfl) (by kernel_rfl) (by kernel_rfl) (fun _ _ _ h => h) (Or.inl ⟨by kernel_rfl, fun W h => Op1.ld_str (.tmp 59) (by kernel_rfl) (by kernel_rfl) W (h 4 _ rfl)⟩) hS ?_
  try simp only [Act.put, List.setIfInBounds_toArray, List.set_cons_zero, List.set_cons_succ]
  generalize World.drew _ = W0 at hS BD XLT ⊢
  refine wpAnyH_ready (rs := [10]) (by kernel_rfl) (by simp) ?_
  refine AllReadyH.cons (o := { dst := some 61, op := Op.call { callee := Callee.value (Operand.func 87), args := #[Operand.tmp 56, Operand.tmp 58, Operand.tmp 60], argTypes := #[60, 3, 9] }, type := 3, pos := "soft.go:53", after := #[{ on := 5, ground := Ground.data }, { on := 7, ground := Ground.data }, { on := 9, ground := Ground.data }], guard := none }) rfl (fun K hK => ?_) AllReadyH.nil
  rw [if_pos (by kernel_rfl)]
  go_simp
  refine (unhide C3 W0 (unhide BD)).mono ?_
  rintro e wq ⟨rfl, e9⟩
  rw [e9]
  clear e9 wq
  go_wp2_with fail
  refine hK.out _ _ (hS) (fun hS1 => ?_)
  clear hK K
  try simp only [Act.put, List.setIfInBounds_toArray, List.set_cons_zero, List.set_cons_succ]
  refine wpAnyH_ready (rs := [11]) (by kernel_rfl) (by simp) ?_
  refine AllReadyH.cons (o := { dst := some 62, op := Op.call { callee := Callee.value (Operand.func 114), args := #[Operand.tmp 51, Operand.tmp 53, Operand.tmp 55, Operand.tmp 61], argTypes := #[60, 3, 9, 3] }, type := 0, pos := "soft.go:53", after := #[{ on := 0, ground := Ground.data }, { on := 2, ground := Ground.data }, { on := 4, ground := Ground.data }, { on := 10, ground := Ground.data }, { on := 10, ground := Ground.chain }], guard := none }) rfl (fun K hK => ?_) AllReadyH.nil
  rw [if_pos (by kernel_rfl)]
  go_simp
  refine (unhide C4 W0 (unhide BD)).mono ?_
  rintro e w4 ⟨rfl, f4⟩
  have F4 := hide f4
  clear f4
  go_wp2_with fail
  refine hK.out _ _ (fun j u hj => ((unhide F4).cell (unhide XLT) (unhide NE).1 (unhide NE).2).trans (hS1 j u hj)) (fun hS2 => ?_)
  clear hK K
  try simp only [Act.put, List.setIfInBounds_toArray, List.set_cons_zero, List.set_cons_succ]
  refine wpAnyH_done (by kernel_rfl) ?_ _
  have g1 := hS2 1 _ rfl
  have g4 := hS2 4 _ rfl
  obtain ⟨cs4, h4⟩ := (unhide F4).fl (unhide HK)
  have C6 := hide (unhide C5 w4 cs4 h4)
  clear h4 C4 C5 hS hS1 hS2
  clear d0 d1 d2 d3 d4 d5 d6
  go_wp2_with fail
  refine (unhide C6).mono ?_
  rintro e w5 ⟨rfl, f5⟩
  have F5 := hide ((unhide HF).after (unhide BD) ((unhide F4).trans f5))
  clear f5 F4 C6 g1 g4
  go_wp2_with fail
  go_ret
  exact ⟨rfl, unhide F5⟩
set_option maxHeartbeats 2000000 in
set_option maxRecDepth 100000 in
theorem sDo_put (h : Fl w bf bc cs ds m k last) (hG : Img.Good m last) (hla : last < 4611686018427387904) (dir toDir p : Int) (name tu text : ByteArray) (hn : name.size ≤ maxLen) (ht : tu.size ≤ maxLen) (hx : text.size ≤ maxLen) (hc : Img.scode m k ⟨5, dir, toDir, p, name, tu, text⟩ = 0) :
    Calls Tryz.prog 81 #[.pointer (some ⟨bf, 0, none⟩), .agg (stpA ⟨5, dir, toDir, p, name, tu, text⟩)] w fun e w' => e = .returned (.int .i64 0) ∧ Fd w w' bf bc ds (Img.sstep m k last ⟨5, dir, toDir, p, name, tu, text⟩) (Img.slast m k last ⟨5, dir, toDir, p, name, tu, text⟩) := by
  have BEL := hide (show Below w.heap.size w (w.alloc (.cells (stpA ⟨5, dir, toDir, p, name, tu, text⟩) 84)) from (Below.refl _ w).alloc (Nat.le_refl _) _)
  have C1 := hide (scheck_any (h.below (unhide BEL)) ⟨5, dir, toDir, p, name, tu, text⟩ hn ht hx)
  have HC := hide fun W bW => stp_box w ⟨5, dir, toDir, p, name, tu, text⟩ W bW
  have C2 := hide fun W (bW : Below w.heap.size w W) => sfull_any (h.below bW) hla ⟨5, dir, toDir, p, name, tu, text⟩ (full_five hG.ex.ok hc)
  rw [(scode_zero hc).1] at C1
  rw [(scode_zero hc).2] at C2
  have HF := hide h
  have tk := Img.take hc
  have hst : Img.sstep m k last ⟨5, dir, toDir, p, name, tu, text⟩ = Img.putPart m k (Img.inoOf m dir name).toNat p.toNat text := by
    rcases Img.sstep_cases (last := last) hc with ⟨z, e⟩ | ⟨z, e⟩ | ⟨z, e⟩ | ⟨z, e⟩ | ⟨z, e⟩ | ⟨z, e⟩
    all_goals first | exact e | (exfalso; revert z; decide) | (simp at z)
  have hsl : Img.slast m k last ⟨5, dir, toDir, p, name, tu, text⟩ = last := by unfold Img.slast; first | rw [if_pos ⟨hc, rfl⟩] | rw [if_neg (fun z => by have := z.2; simp at this)]
  rw [hst, hsl]
  obtain ⟨j, n, hT⟩ := Img.there hG.ex.ok (tk.old (by simp))
  obtain ⟨q0, q2⟩ := tk.part (.inl rfl)
  have q0 : 0 ≤ p := q0
  have q2 : p < 2 := q2
  obtain ⟨q, rfl⟩ := Int.eq_ofNat_of_zero_le q0
  have hq : q < 2 := by omega
  have hn8 := hT.n8
  have C3 := hide fun W (bW : Below w.heap.size w W) => sfind_any (h.below bW) dir name
  rw [show Img.inoOf m dir name = (n : Int) from hT.of] at C3
  simp only [Int.toNat_natCast]
  rw [show (Img.inoOf m dir name).toNat = n by rw [show Img.inoOf m dir name = (n : Int) from hT.of]; rfl]
  have hdat := tk.data rfl
  rw [show Img.inoOf m dir name = (n : Int) from hT.of] at hdat
  simp only [Int.toNat_natCast] at hdat
  obtain ⟨xx, hx9, hxc⟩ : ∃ xx : Nat, xx < 9 ∧ ((m.part n q < 0 ∧ Img.freeData m k = (xx : Int)) ∨ m.part n q = (xx : Int)) := by
    by_cases z : m.part n q < 0
    · obtain ⟨xx, h1, h2, _⟩ := Img.dataAt (hdat z)
      exact ⟨xx, h1, .inl ⟨z, h2⟩⟩
    · rcases Img.checkPart_iff.1 ((Img.inode_parts_ok hG.ex.ok hT.n8 hT.live).2.2 q hq) with y | ⟨y, _⟩
      · omega
      · have hb : 0 ≤ m.part n q ∧ m.part n q < 9 := by simpa [Img.isD] using y
        obtain ⟨xx, hxx⟩ := Int.eq_ofNat_of_zero_le hb.1
        exact ⟨xx, by omega, .inr hxx⟩
  have C4 := hide fun W (bW : Below w.heap.size w W) => sput_any (h.below bW) hT.n8 hq hx9 text hx hxc
  clear h hc tk hst hsl hG hT q0 q2 hdat hxc
  go_enter Tryz.func81, Tryz.ntmps81
  go_wp2_with fail
  refine (unhide C1).mono ?_
  rintro e w1 ⟨rfl, b1⟩
  have A1 := hide b1
  have B1 := hide ((unhide BEL).trans (b1.mono (by simp)))
  have d0 := unhide HC w1 b1 0 _ rfl
  have d1 := unhide HC w1 b1 1 _ rfl
  have d2 := unhide HC w1 b1 2 _ rfl
  have d3 := unhide HC w1 b1 3 _ rfl
  have d4 := unhide HC w1 b1 4 _ rfl
  have d5 := unhide HC w1 b1 5 _ rfl
  have d6 := unhide HC w1 b1 6 _ rfl
  clear b1
  go_wp2_with fail
  refine (unhide C2 w1 (unhide B1)).mono ?_
  rintro e w2 ⟨rfl, b2⟩
  clear d0 d1 d2 d3 d4 d5 d6
  have B2 := hide ((unhide B1).trans (b2.mono (unhide B1).size))
  have A2 := hide ((unhide A1).trans (b2.mono (unhide A1).size))
  have d0 := unhide HC w2 (unhide A2) 0 _ rfl
  have d1 := unhide HC w2 (unhide A2) 1 _ rfl
  have d2 := unhide HC w2 (unhide A2) 2 _ rfl
  have d3 := unhide HC w2 (unhide A2) 3 _ rfl
  have d4 := unhide HC w2 (unhide A2) 4 _ rfl
  have d5 := unhide HC w2 (unhide A2) 5 _ rfl
  have d6 := unhide HC w2 (unhide A2) 6 _ rfl
  clear b2 A1 B1 C1 C2
  have AD := hide ((unhide A2).drew)
  have BD := hide ((unhide B2).drew)
  have NE := hide (And.intro (Nat.ne_of_gt (unhide HF).flt) (Nat.ne_of_gt (unhide HF).clt))
  have XLT := hide (show w.heap.size < w2.drew.heap.size from Nat.lt_of_lt_of_le (by simp) (unhide AD).size)
  go_wp2_with fail
  refine wp_region_held_drew (S := fun W => ∀ (j : Nat) (u : Value), (stpA ⟨5, dir, toDir, (q : Int), name, tu, text⟩)[j]? = some u → W.cell? ⟨w.heap.size, j, none⟩ = some u) (by kernel_rfl) (unhide HC _ (unhide AD)) (fun hS => ?_)
  refine wpAnyH_take (i := 0) (oi := { dst := some 71, op := Op.move (Operand.tmp 0), type := 60, pos := "soft.go:56", after := #[], guard := none }) (v := .pointer (some ⟨bf, 0, none⟩)) rfl (by kernel_rfl) (by kernel_rfl) (by kernel_rfl) (fun _ _ _ h => h) (Or.inl ⟨by kernel_rfl, fun W h => (by first | kernel_rfl | go_simp)⟩) hS ?_
  try simp only [Act.put, List.setIfInBounds_toArray, List.set_cons_zero, List.set_cons_succ]
  refine wpAnyH_take (i := 1) (oi := { dst := some 72, op := Op.move (Operand.tmp 0), type := 60, pos := "soft.go:56", after := #[], guard := none }) (v := .pointer (some ⟨bf, 0, none⟩)) rfl (by kernel_rfl) (by kernel_rfl) (by kernel_rfl) (fun _ _ _ h => h) (Or.inl ⟨by kernel_rfl, fun W h => (by first | kernel_rfl | go_simp)⟩) hS ?_
  try simp only [Act.put, List.setIfInBounds_toArray, List.set_cons_zero, List.set_cons_succ]
  refine wpAnyH_take (i := 2) (oi := { dst := some 73, op := Op.fieldAddr 84 (Operand.tmp 3) 1, type := 0, pos := "soft.go:56", after := #[], guard := none }) (v := .pointer (some ⟨w.heap.size, 1, none⟩)) rfl (by kernel_rfl) (by kernel_rfl) (by kernel_rfl) (fun _ _ _ h => h) (Or.inl ⟨by kernel_rfl, fun W h => (by first | kernel_rfl | go_simp)⟩) hS ?_
  try simp only [Act.put, List.setIfInBounds_toArray, List.set_cons_zero, List.set_cons_succ]
  refine wpAnyH_take (i := 3) (oi := { dst := some 74, op := Op.load 3 (Operand.tmp 73), type := 3, pos := "soft.go:56", after := #[{ on := 2, ground := Ground.data }], guard := none }) (v := .int .i64 dir) rfl (by kernel_rfl) (by kernel_rfl) (by kernel_rfl) (fun _ _ _ h => h) (Or.inl ⟨by kernel_rfl, fun W h => Op1.ld_int (.tmp 73) (by kernel_rfl) (by kernel_rfl) W (h 1 _ rfl)⟩) hS ?_
  try simp only [Act.put, List.setIfInBounds_toArray, List.set_cons_zero, List.set_cons_succ]
  refine wpAnyH_take (i := 4) (oi := { dst := some 75, op := Op.fieldAddr 84 (Operand.tmp 3) 4, type := 0, pos := "soft.go:56", after := #[], guard := none }) (v := .pointer (some ⟨w.heap.size, 4, none⟩)) rfl (by kernel_rfl) (by kernel_rfl) (by kernel_rfl) (fun _ _ _ h => h) (Or.inl ⟨by kernel_rfl, fun W h => (by first | kernel_rfl | go_simp)⟩) hS ?_
  try simp only [Act.put, List.setIfInBounds_toArray, List.set_cons_zero, List.set_cons_succ]
  refine wpAnyH_take (i := 5) (oi := { dst := some 76, op := Op.load 9 (Operand.tmp 75), type := 9, pos := "soft.go:56", after := #[{ on := 4, ground := Ground.data }], guard := none }) (v := .string name) rfl (by kernel_rfl) (by kernel_rfl) (by kernel_rfl) (fun _ _ _ h => h) (Or.inl ⟨by kernel_rfl, fun W h => Op1.ld_str (.tmp 75) (by kernel_rfl) (by kernel_rfl) W (h 4 _ rfl)⟩) hS ?_
  try simp only [Act.put, List.setIfInBounds_toArray, List.set_cons_zero, List.set_cons_succ]
  refine wpAnyH_take (i := 7) (oi := { dst := some 78, op := Op.fieldAddr 84 (Operand.tmp 3) 3, type := 0, pos := "soft.go:56", after := #[], guard := none }) (v := .pointer (some ⟨w.heap.size, 3, none⟩)) rfl (by kernel_rfl) (by kernel_rfl) (by kernel_rfl) (fun _ _ _ h => h) (Or.inl ⟨by kernel_rfl, fun W h => (by first | kernel_rfl | go_simp)⟩) hS ?_
  try simp only [Act.put, List.setIfInBounds_toArray, List.set_cons_zero, List.set_cons_succ]
  refine wpAnyH_take (i := 8) (oi := { dst := some 79, op := Op.load 3 (Operand.tmp 78), type := 3, pos := "soft.go:56", after := #[{ on := 7, ground := Ground.data }], guard := none }) (v := .int .i64 (q : Int)) rfl (by kernel_rfl) (by kernel_rfl) (by kernel_rfl) (fun _ _ _ h => h) (Or.inl ⟨by kernel_rfl, fun W h => Op1.ld_int (.tmp 78) (by kernel_rfl) (by kernel_rfl) W (h 3 _ rfl)⟩) hS ?_
  try simp only [Act.put, List.setIfInBounds_toArray, List.set_cons_zero, List.set_cons_succ]
  refine wpAnyH_take (i := 9) (oi := { dst := some 80, op := Op.fieldAddr 84 (Operand.tmp 3) 6, type := 0, pos := "soft.go:56", after := #[], guard := none }) (v := .pointer (some ⟨w.heap.size, 6, none⟩)) rfl (by kernel_rfl) (by kernel_rfl) (by kernel_rfl) (fun _ _ _ h => h) (Or.inl ⟨by kernel_rfl, fun W h => (by first | kernel_rfl | go_simp)⟩) hS ?_
  try simp only [Act.put, List.setIfInBounds_toArray, List.set_cons_zero, List.set_cons_succ]
  refine wpAnyH_take (i := 10) (oi := { dst := some 81, op := Op.load 9 (Operand.tmp 80), type := 9, pos := "soft.go:56", after := #[{ on := 9, ground := Ground.data }], guard := none }) (v := .string text) rfl (by kernel_rfl) (by kernel_rfl) (by kernel_rfl) (fun _ _ _ h => h) (Or.inl ⟨by kernel_rfl, fun W h => Op1.ld_str (.tmp 80) (by kernel_rfl) (by kernel_rfl) W (h 6 _ rfl)⟩) hS ?_
  try simp only [Act.put, List.setIfInBounds_toArray, List.set_cons_zero, List.set_cons_succ]
  generalize World.drew _ = W0 at hS BD XLT ⊢
  refine wpAnyH_ready (rs := [6]) (by kernel_rfl) (by simp) ?_
  refine AllReadyH.cons (o := { dst := some 77, op := Op.call { callee := Callee.value (Operand.func 87), args := #[Operand.tmp 72, Operand.tmp 74, Operand.tmp 76], argTypes := #[60, 3, 9] }, type := 3, pos := "soft.go:56", after := #[{ on := 1, ground := Ground.data }, { on := 3, ground := Ground.data }, { on := 5, ground := Ground.data }], guard := none }) rfl (fun K hK => ?_) AllReadyH.nil
  rw [if_pos (by kernel_rfl)]
  go_simp
  refine (unhide C3 W0 (unhide BD)).mono ?_
  rintro e wq ⟨rfl, e9⟩
  rw [e9]
  clear e9 wq
  go_wp2_with fail
  refine hK.out _ _ (hS) (fun hS1 => ?_)
  clear hK K
  try simp only [Act.put, List.setIfInBounds_toArray, List.set_cons_zero, List.set_cons_succ]
  refine wpAnyH_ready (rs := [11]) (by kernel_rfl) (by simp) ?_
  refine AllReadyH.cons (o := { dst := some 82, op := Op.call { callee := Callee.value (Operand.func 117), args := #[Operand.tmp 71, Operand.tmp 77, Operand.tmp 79, Operand.tmp 81], argTypes := #[60, 3, 3, 9] }, type := 0, pos := "soft.go:56", after := #[{ on := 0, ground := Ground.data }, { on := 6, ground := Ground.data }, { on := 8, ground := Ground.data }, { on := 10, ground := Ground.data }, { on := 6, ground := Ground.chain }], guard := none }) rfl (fun K hK => ?_) AllReadyH.nil
  rw [if_pos (by kernel_rfl)]
  go_simp
  refine (unhide C4 W0 (unhide BD)).mono ?_
  rintro e w4 ⟨rfl, f4⟩
  have F4 := hide f4
  clear f4
  go_wp2_with fail
  refine hK.out _ _ (fun j u hj => ((unhide F4).cell (unhide XLT) (unhide NE).1 (unhide NE).2).trans (hS1 j u hj)) (fun hS2 => ?_)
  clear hK K
  try simp only [Act.put, List.setIfInBounds_toArray, List.set_cons_zero, List.set_cons_succ]
  refine wpAnyH_done (by kernel_rfl) ?_ _
  have F5 := hide ((unhide HF).after (unhide BD) (unhide F4))
  clear hS hS1 hS2 F4 C4
  clear d0 d1 d2 d3 d4 d5 d6
  go_wp2_with fail
  go_ret
  exact ⟨rfl, unhide F5⟩
set_option maxHeartbeats 2000000 in
set_option maxRecDepth 100000 in
theorem sDo_cut (h : Fl w bf bc cs ds m k last) (hG : Img.Good m last) (hla : last < 4611686018427387904) (dir toDir p : Int) (name tu text : ByteArray) (hn : name.size ≤ maxLen) (ht : tu.size ≤ maxLen) (hx : text.size ≤ maxLen) (hc : Img.scode m k ⟨6, dir, toDir, p, name, tu, text⟩ = 0) :
    Calls Tryz.prog 81 #[.pointer (some ⟨bf, 0, none⟩), .agg (stpA ⟨6, dir, toDir, p, name, tu, text⟩)] w fun e w' => e = .returned (.int .i64 0) ∧ Fd w w' bf bc ds (Img.sstep m k last ⟨6, dir, toDir, p, name, tu, text⟩) (Img.slast m k last ⟨6, dir, toDir, p, name, tu, text⟩) := by
  have BEL := hide (show Below w.heap.size w (w.alloc (.cells (stpA ⟨6, dir, toDir, p, name, tu, text⟩) 84)) from (Below.refl _ w).alloc (Nat.le_refl _) _)
  have C1 := hide (scheck_any (h.below (unhide BEL)) ⟨6, dir, toDir, p, name, tu, text⟩ hn ht hx)
  have HC := hide fun W bW => stp_box w ⟨6, dir, toDir, p, name, tu, text⟩ W bW
  have C2 := hide fun W (bW : Below w.heap.size w W) => sfull_any (h.below bW) hla ⟨6, dir, toDir, p, name, tu, text⟩ (full_five hG.ex.ok hc)
  rw [(scode_zero hc).1] at C1
  rw [(scode_zero hc).2] at C2
  have HF := hide h
  have tk := Img.take hc
  have hst : Img.sstep m k last ⟨6, dir, toDir, p, name, tu, text⟩ = m.setPart (Img.inoOf m dir name).toNat p.toNat (-1) := by
    rcases Img.sstep_cases (last := last) hc with ⟨z, e⟩ | ⟨z, e⟩ | ⟨z, e⟩ | ⟨z, e⟩ | ⟨z, e⟩ | ⟨z, e⟩
    all_goals first | exact e | (exfalso; revert z; decide) | (simp at z)
  have hsl : Img.slast m k last ⟨6, dir, toDir, p, name, tu, text⟩ = last := by unfold Img.slast; first | rw [if_pos ⟨hc, rfl⟩] | rw [if_neg (fun z => by have := z.2; simp at this)]
  rw [hst, hsl]
  obtain ⟨j, n, hT⟩ := Img.there hG.ex.ok (tk.old (by simp))
  obtain ⟨q0, q2⟩ := tk.part (.inr rfl)
  have q0 : 0 ≤ p := q0
  have q2 : p < 2 := q2
  obtain ⟨q, rfl⟩ := Int.eq_ofNat_of_zero_le q0
  have hq : q < 2 := by omega
  have hn8 := hT.n8
  have C3 := hide fun W (bW : Below w.heap.size w W) => sfind_any (h.below bW) dir name
  rw [show Img.inoOf m dir name = (n : Int) from hT.of] at C3
  simp only [Int.toNat_natCast]
  rw [show (Img.inoOf m dir name).toNat = n by rw [show Img.inoOf m dir name = (n : Int) from hT.of]; rfl]
  have HM := hide h.now
  clear h hc tk hst hsl hG hT q0 q2
  go_enter Tryz.func81, Tryz.ntmps81
  go_wp2_with fail
  refine (unhide C1).mono ?_
  rintro e w1 ⟨rfl, b1⟩
  have A1 := hide b1
  have B1 := hide ((unhide BEL).trans (b1.mono (by simp)))
  have d0 := unhide HC w1 b1 0 _ rfl
  have d1 := unhide HC w1 b1 1 _ rfl
  have d2 := unhide HC w1 b1 2 _ rfl
  have d3 := unhide HC w1 b1 3 _ rfl
  have d4 := unhide HC w1 b1 4 _ rfl
  have d5 := unhide HC w1 b1 5 _ rfl
  have d6 := unhide HC w1 b1 6 _ rfl
  clear b1
  go_wp2_with fail
  refine (unhide C2 w1 (unhide B1)).mono ?_
  rintro e w2 ⟨rfl, b2⟩
  clear d0 d1 d2 d3 d4 d5 d6
  have B2 := hide ((unhide B1).trans (b2.mono (unhide B1).size))
  have A2 := hide ((unhide A1).trans (b2.mono (unhide A1).size))
  have d0 := unhide HC w2 (unhide A2) 0 _ rfl
  have d1 := unhide HC w2 (unhide A2) 1 _ rfl
  have d2 := unhide HC w2 (unhide A2) 2 _ rfl
  have d3 := unhide HC w2 (unhide A2) 3 _ rfl
  have d4 := unhide HC w2 (unhide A2) 4 _ rfl
  have d5 := unhide HC w2 (unhide A2) 5 _ rfl
  have d6 := unhide HC w2 (unhide A2) 6 _ rfl
  clear b2 A1 B1 C1 C2
  have FM2 := hide (((unhide HF).fm.call (unhide B2)).call (Below.refl _ _).drew)
  have HB := hide fun j u hj => (show w2.drew.cell? ⟨w.heap.size, j, none⟩ = some u from unhide HC w2 (unhide A2) j u hj)
  have FB2 := hide ((unhide B2).drew)
  go_wp2_with fail
  refine wp_region_F (S := FS bf bc w.heap.size m ⟨6, dir, toDir, (q : Int), name, tu, text⟩) 18 (by kernel_rfl) (⟨(unhide FM2).ptr, unhide HB, (unhide FM2).has (unhide HM)⟩) (fun hS => ?_)
  refine wpAnyF_take (i := 0) (oi := { dst := some 85, op := Op.move (Operand.tmp 0), type := 60, pos := "soft.go:58", after := #[], guard := none }) (v := .pointer (some ⟨bf, 0, none⟩)) rfl (by kernel_rfl) (by kernel_rfl) (by kernel_rfl) (by kernel_rfl) (fun _ _ _ h => h) (Or.inl ⟨by kernel_rfl, fun W h => (by first | kernel_rfl | go_simp)⟩) hS ?_
  try simp only [Act.put, List.setIfInBounds_toArray, List.set_cons_zero, List.set_cons_succ]
  refine wpAnyF_take (i := 1) (oi := { dst := some 86, op := Op.nilCheck (Operand.tmp 85), type := 0, pos := "soft.go:58", after := #[{ on := 0, ground := Ground.data }], guard := none }) (v := .pointer (some ⟨bf, 0, none⟩)) rfl (by kernel_rfl) (by kernel_rfl) (by kernel_rfl) (by kernel_rfl) (fun _ _ _ h => h) (Or.inl ⟨by kernel_rfl, fun W h => (by first | kernel_rfl | go_simp)⟩) hS ?_
  try simp only [Act.put, List.setIfInBounds_toArray, List.set_cons_zero, List.set_cons_succ]
  refine wpAnyF_take (i := 2) (oi := { dst := some 87, op := Op.fieldAddr 114 (Operand.tmp 86) 0, type := 0, pos := "soft.go:58", after := #[{ on := 1, ground := Ground.data }], guard := none }) (v := .pointer (some ⟨bf, 0, none⟩)) rfl (by kernel_rfl) (by kernel_rfl) (by kernel_rfl) (by kernel_rfl) (fun _ _ _ h => h) (Or.inl ⟨by kernel_rfl, fun W h => (by first | kernel_rfl | go_simp)⟩) hS ?_
  try simp only [Act.put, List.setIfInBounds_toArray, List.set_cons_zero, List.set_cons_succ]
  refine wpAnyF_take (i := 3) (oi := { dst := some 88, op := Op.load 111 (Operand.tmp 87), type := 111, pos := "soft.go:58", after := #[{ on := 2, ground := Ground.data }], guard := none }) (v := .pointer (some ⟨bc, 0, none⟩)) rfl (by kernel_rfl) (by kernel_rfl) (by kernel_rfl) (by kernel_rfl) (fun _ _ _ h => h) (Or.inl ⟨by kernel_rfl, fun W h => Op1.ld_ptr (.tmp 87) (by kernel_rfl) (by kernel_rfl) W (h.1)⟩) hS ?_
  try simp only [Act.put, List.setIfInBounds_toArray, List.set_cons_zero, List.set_cons_succ]
  refine wpAnyF_take (i := 4) (oi := { dst := some 89, op := Op.move (Operand.tmp 0), type := 60, pos := "soft.go:58", after := #[], guard := none }) (v := .pointer (some ⟨bf, 0, none⟩)) rfl (by kernel_rfl) (by kernel_rfl) (by kernel_rfl) (by kernel_rfl) (fun _ _ _ h => h) (Or.inl ⟨by kernel_rfl, fun W h => (by first | kernel_rfl | go_simp)⟩) hS ?_
  try simp only [Act.put, List.setIfInBounds_toArray, List.set_cons_zero, List.set_cons_succ]
  refine wpAnyF_take (i := 5) (oi := { dst := some 90, op := Op.fieldAddr 84 (Operand.tmp 3) 1, type := 0, pos := "soft.go:58", after := #[], guard := none }) (v := .pointer (some ⟨w.heap.size, 1, none⟩)) rfl (by kernel_rfl) (by kernel_rfl) (by kernel_rfl) (by kernel_rfl) (fun _ _ _ h => h) (Or.inl ⟨by kernel_rfl, fun W h => (by first | kernel_rfl | go_simp)⟩) hS ?_
  try simp only [Act.put, List.setIfInBounds_toArray, List.set_cons_zero, List.set_cons_succ]
  refine wpAnyF_take (i := 6) (oi := { dst := some 91, op := Op.load 3 (Operand.tmp 90), type := 3, pos := "soft.go:58", after := #[{ on := 5, ground := Ground.data }], guard := none }) (v := .int .i64 dir) rfl (by kernel_rfl) (by kernel_rfl) (by kernel_rfl) (by kernel_rfl) (fun _ _ _ h => h) (Or.inl ⟨by kernel_rfl, fun W h => Op1.ld_int (.tmp 90) (by kernel_rfl) (by kernel_rfl) W (h.2.1 1 _ rfl)⟩) hS ?_
  try simp only [Act.put, List.setIfInBounds_toArray, List.set_cons_zero, List.set_cons_succ]
  refine wpAnyF_take (i := 7) (oi := { dst := some 92, op := Op.fieldAddr 84 (Operand.tmp 3) 4, type := 0, pos := "soft.go:58", after := #[], guard := none }) (v := .pointer (some ⟨w.heap.size, 4, none⟩)) rfl (by kernel_rfl) (by kernel_rfl) (by kernel_rfl) (by kernel_rfl) (fun _ _ _ h => h) (Or.inl ⟨by kernel_rfl, fun W h => (by first | kernel_rfl | go_simp)⟩) hS ?_
  try simp only [Act.put, List.setIfInBounds_toArray, List.set_cons_zero, List.set_cons_succ]
  refine wpAnyF_take (i := 8) (oi := { dst := some 93, op := Op.load 9 (Operand.tmp 92), type := 9, pos := "soft.go:58", after := #[{ on := 7, ground := Ground.data }], guard := none }) (v := .string name) rfl (by kernel_rfl) (by kernel_rfl) (by kernel_rfl) (by kernel_rfl) (fun _ _ _ h => h) (Or.inl ⟨by kernel_rfl, fun W h => Op1.ld_str (.tmp 92) (by kernel_rfl) (by kernel_rfl) W (h.2.1 4 _ rfl)⟩) hS ?_
  try simp only [Act.put, List.setIfInBounds_toArray, List.set_cons_zero, List.set_cons_succ]
  refine wpAnyF_take (i := 10) (oi := { dst := some 95, op := Op.fieldAddr 84 (Operand.tmp 3) 3, type := 0, pos := "soft.go:58", after := #[], guard := none }) (v := .pointer (some ⟨w.heap.size, 3, none⟩)) rfl (by kernel_rfl) (by kernel_rfl) (by kernel_rfl) (by kernel_rfl) (fun _ _ _ h => h) (Or.inl ⟨by kernel_rfl, fun W h => (by first | kernel_rfl | go_simp)⟩) hS ?_
  try simp only [Act.put, List.setIfInBounds_toArray, List.set_cons_zero, List.set_cons_succ]
  refine wpAnyF_take (i := 11) (oi := { dst := some 96, op := Op.load 3 (Operand.tmp 95), type := 3, pos := "soft.go:58", after := #[{ on := 10, ground := Ground.data }], guard := none }) (v := .int .i64 (q : Int)) rfl (by kernel_rfl) (by kernel_rfl) (by kernel_rfl) (by kernel_rfl) (fun _ _ _ h => h) (Or.inl ⟨by kernel_rfl, fun W h => Op1.ld_int (.tmp 95) (by kernel_rfl) (by kernel_rfl) W (h.2.1 3 _ rfl)⟩) hS ?_
  try simp only [Act.put, List.setIfInBounds_toArray, List.set_cons_zero, List.set_cons_succ]
  refine wpAnyF_free (i := 12) (oi := { dst := some 97, op := Op.nilCheck (Operand.tmp 88), type := 0, pos := "soft.go:58", after := #[{ on := 3, ground := Ground.data }], guard := none }) (v := .pointer (some ⟨bc, 0, none⟩)) rfl (by kernel_rfl) (by kernel_rfl) (by kernel_rfl) (by kernel_rfl) (fun _ _ _ h => h) (Or.inl ⟨by kernel_rfl, fun W _ => (by first | kernel_rfl | go_simp)⟩) hS ?_
  try simp only [Act.put, List.setIfInBounds_toArray, List.set_cons_zero, List.set_cons_succ]
  refine wpAnyF_free (i := 13) (oi := { dst := some 98, op := Op.fieldAddr 141 (Operand.tmp 97) 0, type := 0, pos := "soft.go:58", after := #[{ on := 12, ground := Ground.data }], guard := none }) (v := .pointer (some ⟨bc, 0, none⟩)) rfl (by kernel_rfl) (by kernel_rfl) (by kernel_rfl) (by kernel_rfl) (fun _ _ _ h => h) (Or.inl ⟨by kernel_rfl, fun W _ => (by first | kernel_rfl | go_simp)⟩) hS ?_
  try simp only [Act.put, List.setIfInBounds_toArray, List.set_cons_zero, List.set_cons_succ]
  refine wpAnyF_free (i := 14) (oi := { dst := some 99, op := Op.fieldAddr 78 (Operand.tmp 98) 0, type := 0, pos := "soft.go:58", after := #[{ on := 13, ground := Ground.data }], guard := none }) (v := .pointer (some ⟨bc, 0, none⟩)) rfl (by kernel_rfl) (by kernel_rfl) (by kernel_rfl) (by kernel_rfl) (fun _ _ _ h => h) (Or.inl ⟨by kernel_rfl, fun W _ => (by first | kernel_rfl | go_simp)⟩) hS ?_
  try simp only [Act.put, List.setIfInBounds_toArray, List.set_cons_zero, List.set_cons_succ]
  generalize World.drew _ = W0 at hS FM2 FB2 ⊢
  refine wpAnyF_one (i := 9) (o := { dst := some 94, op := Op.call { callee := Callee.value (Operand.func 87), args := #[Operand.tmp 89, Operand.tmp 91, Operand.tmp 93], argTypes := #[60, 3, 9] }, type := 3, pos := "soft.go:58", after := #[{ on := 4, ground := Ground.data }, { on := 6, ground := Ground.data }, { on := 8, ground := Ground.data }], guard := none }) (by kernel_rfl) rfl (by kernel_rfl) (fun K hK => ?_)
  go_simp
  refine (unhide C3 W0 (unhide FB2)).mono ?_
  rintro e wq ⟨rfl, e9⟩
  rw [e9]
  clear e9 wq
  go_wp2_with fail
  have hS1 := hS
  refine hK.out _ _ (fun _ => hS1) ?_
  clear hK K
  try simp only [Act.put, List.setIfInBounds_toArray, List.set_cons_zero, List.set_cons_succ]
  refine wpAnyF_free (i := 15) (oi := { dst := some 100, op := Op.indexAddr 69 (Operand.tmp 99) (Operand.tmp 94), type := 0, pos := "soft.go:58", after := #[{ on := 14, ground := Ground.data }, { on := 9, ground := Ground.data }], guard := none }) (v := .pointer (some ⟨bc, n * 5, none⟩)) rfl (by kernel_rfl) (by kernel_rfl) (by kernel_rfl) (by kernel_rfl) (fun _ _ _ h => h) (Or.inl ⟨by kernel_rfl, fun W _ => Op1.ix_ino (.tmp 99) (.tmp 94) (by kernel_rfl) (by kernel_rfl) (by kernel_rfl) (hn8) W⟩) hS1 ?_
  try simp only [Act.put, List.setIfInBounds_toArray, List.set_cons_zero, List.set_cons_succ]
  refine wpAnyF_free (i := 16) (oi := { dst := some 101, op := Op.fieldAddr 68 (Operand.tmp 100) 3, type := 0, pos := "soft.go:58", after := #[{ on := 15, ground := Ground.data }], guard := none }) (v := .pointer (some ⟨bc, n * 5 + 3, none⟩)) rfl (by kernel_rfl) (by kernel_rfl) (by kernel_rfl) (by kernel_rfl) (fun _ _ _ h => h) (Or.inl ⟨by kernel_rfl, fun W _ => (by first | kernel_rfl | go_simp)⟩) hS1 ?_
  try simp only [Act.put, List.setIfInBounds_toArray, List.set_cons_zero, List.set_cons_succ]
  refine wpAnyF_take (i := 17) (oi := { dst := some 102, op := Op.indexAddr 66 (Operand.tmp 101) (Operand.tmp 96), type := 0, pos := "soft.go:58", after := #[{ on := 16, ground := Ground.data }, { on := 11, ground := Ground.data }, { on := 0, ground := Ground.phase }, { on := 1, ground := Ground.phase }, { on := 2, ground := Ground.phase }, { on := 3, ground := Ground.phase }, { on := 4, ground := Ground.phase }, { on := 5, ground := Ground.phase }, { on := 6, ground := Ground.phase }, { on := 7, ground := Ground.phase }, { on := 8, ground := Ground.phase }, { on := 9, ground := Ground.phase }, { on := 10, ground := Ground.phase }, { on := 11, ground := Ground.phase }], guard := none }) (v := .pointer (some ⟨bc, n * 5 + 3 + q, none⟩)) rfl (by kernel_rfl) (by kernel_rfl) (by kernel_rfl) (by kernel_rfl) (fun _ _ _ h => h) (Or.inl ⟨by kernel_rfl, fun W h => Op1.ix_part (.tmp 101) (.tmp 96) (by kernel_rfl) (by kernel_rfl) (by kernel_rfl) (hq) W⟩) hS1 ?_
  try simp only [Act.put, List.setIfInBounds_toArray, List.set_cons_zero, List.set_cons_succ]
  refine wpAnyF_last (o := { dst := none, op := Op.store 3 (Operand.tmp 102) (Operand.const (Value.int IntKind.i64 (-1))), type := 0, pos := "soft.go:58", after := #[{ on := 17, ground := Ground.data }, { on := 9, ground := Ground.chain }, { on := 0, ground := Ground.phase }, { on := 1, ground := Ground.phase }, { on := 2, ground := Ground.phase }, { on := 3, ground := Ground.phase }, { on := 4, ground := Ground.phase }, { on := 5, ground := Ground.phase }, { on := 6, ground := Ground.phase }, { on := 7, ground := Ground.phase }, { on := 8, ground := Ground.phase }, { on := 9, ground := Ground.phase }, { on := 10, ground := Ground.phase }, { on := 11, ground := Ground.phase }], guard := none }) (by kernel_rfl) rfl (by kernel_rfl) (by kernel_rfl) (fun K hK => ?_)
  refine Op1.st_int (v := -1) (.tmp 102) (.const (.int .i64 (-1))) (by kernel_rfl) rfl (by kernel_rfl) (by kernel_rfl) (by have := hS1.2.2.part n q hn8 hq; rw [Nat.zero_add] at this; exact this) ((unhide FM2).frozen _) ?_
  refine hK.out _ _ ?_
  clear hK K
  try simp only [Act.put, List.setIfInBounds_toArray, List.set_cons_zero, List.set_cons_succ]
  refine wpAnyF_done (by kernel_rfl) ?_ _
  have F4 := hide (Fd.part (unhide FM2) (unhide HM) hn8 hq (-1))
  clear hS hS1 d0 d1 d2 d3 d4 d5 d6
  go_wp2_with fail
  go_ret
  exact ⟨rfl, unhide F4⟩
theorem sDo_any (h : Fl w bf bc cs ds m k last) (hG : Img.Good m last) (hla : last < 4611686018427387904) (x : Stp) (hn : x.name.size ≤ maxLen) (ht : x.to.size ≤ maxLen) (hx : x.text.size ≤ maxLen) :
    Calls Tryz.prog 81 #[.pointer (some ⟨bf, 0, none⟩), .agg (stpA x)] w fun e w' => e = .returned (.int .i64 (Img.scode m k x)) ∧ Fd w w' bf bc ds (Img.sstep m k last x) (Img.slast m k last x) := by
  by_cases hc : Img.scode m k x = 0
  · rw [hc]
    have kc := Img.sstep_cases (last := last) hc
    obtain ⟨kind, dir, toDir, p, name, tu, text⟩ := x
    rcases kc with ⟨z, _⟩ | ⟨z, _⟩ | ⟨z, _⟩ | ⟨z, _⟩ | ⟨z, _⟩ | ⟨z, _⟩
    · have z : kind = 1 := z
      subst z
      exact sDo_make h hG hla dir toDir p name tu text hn ht hx hc
    · have z : kind = 2 := z
      subst z
      exact sDo_link h hG hla dir toDir p name tu text hn ht hx hc
    · have z : kind = 3 := z
      subst z
      exact sDo_unlink h hG hla dir toDir p name tu text hn ht hx hc
    · have z : kind = 4 := z
      subst z
      exact sDo_rename h hG hla dir toDir p name tu text hn ht hx hc
    · have z : kind = 5 := z
      subst z
      exact sDo_put h hG hla dir toDir p name tu text hn ht hx hc
    · have z : kind = 6 := z
      subst z
      exact sDo_cut h hG hla dir toDir p name tu text hn ht hx hc
  · have e1 : Img.sstep m k last x = m := if_pos hc
    have e2 : Img.slast m k last x = last := if_neg (fun z => hc z.1)
    rw [e1, e2]
    refine (sDo_code h hG hla x hn ht hx hc).mono ?_
    rintro e w' ⟨rfl, hb⟩
    exact ⟨rfl, h.fd.call hb⟩
end
end Go.Proofs.YtfpfpnhpbnnmfadGreatDoor
