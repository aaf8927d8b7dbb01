/-
  The law SoftFresh: its walk. (Written by genei.py.)
-/
import Derived.Test.YtmlhalhjfcfagabGreatYr
import Derived.Test.YtmlhalhjfcfagabGreatYm
namespace Go.Proofs.YtmlhalhjfcfagabGreat
open Go.RowKit
open Idl (Stp chk stpA)
namespace Sft
theorem fresh_read {m k : Img} {last : Int} {x : Stp} {n q : Nat} (h : Img.Fresh m k last x n q) (hnm : Img.isNmB x.name.toList = true) (p : Nat) (hp : p < 2) :
    Img.sreadC (Img.sstep m k last x) x.dir x.name (p : Int) = 0 ∧ Img.sreadB (Img.sstep m k last x) x.dir x.name (p : Int) = false := by
  have hi : Img.inoOf (Img.sstep m k last x) x.dir x.name = (n : Int) := by
    unfold Img.inoOf
    rw [h.find, if_neg (by omega), Int.toNat_natCast]
    have := h.entry; unfold Img.entry at this; injection this
  have hc : Img.sreadC (Img.sstep m k last x) x.dir x.name (p : Int) = 0 := by
    have hs : Idl.spot x.dir x.name = 0 := by
      unfold Idl.spot
      rw [show Idl.isD x.dir = true by have := h.dir; simp [Idl.isD]; omega, hnm]; rfl
    have hk : Idl.chk (Idl.cut x.dir x.name (p : Int)) = 0 := by
      unfold Idl.chk Idl.cut
      dsimp only
      rw [if_neg (by omega), hs]
      simp
      omega
    unfold Img.sreadC Img.scheck
    rw [hk]
    simp only [Idl.cut, hi]
    simp
  refine ⟨hc, ?_⟩
  unfold Img.sreadB
  rw [if_neg (by rw [hc]; simp)]
  unfold Img.spart
  rw [hi, Int.toNat_natCast, Int.toNat_natCast]
  obtain ⟨_, _, _, g4, g5⟩ := Img.inode_is h.ino
  match p, hp with
  | 0, _ => rw [g4]; rfl
  | 1, _ => rw [g5]; rfl
theorem entZ_info (s : ByteArray) (a b : Int) : (Tryz.prog.info? 27).map (·.size) = some (#[.string s, .int .i64 a, .int .i64 b] : Array Value).size := by kernel_rfl
theorem ino_cells : (Tryz.prog.info? 24).map (·.size) = some 5 := by kernel_rfl
theorem ino_under : Tryz.prog.underlying 24 = some (.struct (Tryz.prog.fieldsOf 24)) := by kernel_rfl
theorem row5 {cs : Array Value} {m : Img} (h : IsImg cs m) {n : Nat} (hn : n < 8) : cs.extract (n * 5) (n * 5 + 5) = #[.bool (m.live n), .int .i64 (m.stamp n), .int .i64 (m.links n), .int .i64 (m.part n 0), .int .i64 (m.part n 1)] :=
  cut5 (h.live n hn) (h.stamp n hn) (h.links n hn) (h.part n 0 hn (by omega)) (h.part n 1 hn (by omega))
theorem row5a {cs ds : Array Value} {m : Img} (h : IsImg cs m) {n : Nat} (hn : n < 8) : (cs ++ ds).extract (n * 5) (n * 5 + 5) = #[.bool (m.live n), .int .i64 (m.stamp n), .int .i64 (m.links n), .int .i64 (m.part n 0), .int .i64 (m.part n 1)] := by
  have z := h.size
  have g : ∀ i v, cs[i]? = some v → (cs ++ ds)[i]? = some v := fun i v hv => by
    rw [Array.getElem?_append, if_pos (Array.getElem?_eq_some_iff.1 hv).1]; exact hv
  exact cut5 (g _ _ (h.live n hn)) (g _ _ (h.stamp n hn)) (g _ _ (h.links n hn)) (g _ _ (h.part n 0 hn (by omega))) (g _ _ (h.part n 1 hn (by omega)))
set_option maxHeartbeats 8000000 in
set_option maxRecDepth 100000 in
theorem softFresh_any {w : World} {v : Value} {L : List Stp} (hs : Idl.Steps w v L) (d : Int) (nm : ByteArray) (hnm : nm.size ≤ maxLen) :
    Calls Tryz.prog 7 #[v, .int .i64 d, .string nm] w fun e w' => e = .returned (.bool true) ∧ Below w.heap.size w w' := by
  have HNM := hide hnm
  clear hnm
  have z := zero_img.1
  have hbg := begun_any w
  have HG := hide fun W (bW : Below w.heap.size w W) => Idl.greatSteps_any (hs.below bW)
  have HOk := hide hs.ok
  have hgl : Idl.greats L = false → L.length ≤ 200 := fun h => by
    simp only [Idl.greats, Bool.or_eq_false_iff, decide_eq_false_iff_not] at h
    omega
  have HGL := hide hgl
  obtain ⟨a, c, rfl, hst⟩ := Steps.gen hs
  have HST := hide hst
  clear hs hgl hst
  go_enter Tryz.func7, Tryz.ntmps7
  go_wp2_with fail
  refine hbg.mono ?_
  rintro e w1 ⟨rfl, b1⟩
  have B1 := hide b1
  have hg := unhide HG w1 b1
  clear b1 hbg
  cases hgr : Idl.greats L <;> rw [hgr] at hg
  case true =>
    clear hgr
    go_wp2_with fail
    refine hg.mono ?_
    rintro e w2 ⟨rfl, b2⟩
    have B2 := hide ((unhide B1).trans (b2.mono (unhide B1).size))
    clear b2 hg
    go_wp2_with fail
    go_ret
    exact ⟨rfl, unhide B2⟩
  have h200 := unhide HGL hgr
  clear hgr HGL HG
  by_cases hgn : (nm.size : Int) ≤ 100
  case neg =>
    have hgn2 : decide (100 < (nm.size : Int)) = true := by simp; omega
    go_wp2_with fail
    refine hg.mono ?_
    rintro e w2 ⟨rfl, b2⟩
    have B2 := hide ((unhide B1).trans (b2.mono (unhide B1).size))
    clear b2 hg
    go_wp2_with fail
    go_ret
    exact ⟨rfl, unhide B2⟩
  have hgn2 : decide (100 < (nm.size : Int)) = false := by simp; omega
  go_wp2_with fail
  refine hg.mono ?_
  rintro e w2 ⟨rfl, b2⟩
  have B2 := hide ((unhide B1).trans (b2.mono (unhide B1).size))
  clear b2 hg B1
  go_wp2_with fail
  refine (Fo.new w (unhide B2)).mono ?_
  rintro e w3 ⟨bf, bc, rfl, _, _, h3, _⟩
  have H3 := hide h3
  clear h3 B2
  clear hgn hgn2
  go_wp2_with fail
  go_loopw [8] (fun i wr => ∃ (j : Nat) (m k : Img) (last : Int), j ≤ L.length ∧ i = .int .i64 j ∧ Hid (Fo w bf bc m k last wr) ∧ Hid (Keeps m k last j)) (fun i _ => L.length - (intOf i).toNat)
  case atStart => exact ⟨0, blankI, blankI, 0, Nat.zero_le _, rfl, H3, hide Keeps.start⟩
  case round =>
    clear H3
    obtain ⟨j, m, k, last, hj, rfl, HF, HK⟩ := hrel
    by_cases hlt : j < L.length
    case pos =>
      have hjn : (j : Int) < (L.length : Int) := by omega
      obtain ⟨ga, oa, rfl, hga, hca⟩ := unhide HST j hlt
      have hxo := unhide HOk L[j] (List.getElem_mem hlt)
      generalize L[j] = x at hca hxo
      have HXO := hide hxo.big
      have HCA := hide hca
      have K1 := hide ((unhide HK).any x)
      have F0 := hide ((unhide HF).call ((Below.refl _ wr).drew))
      have S0 := unhide HCA _ (unhide F0).bel
      clear hca hxo HST HOk hga
      go_wp2_with fail
      refine wp_region_held_drew (S := fun W => ∀ q u, (stpA x)[q]? = some u → W.cell? ⟨ga, oa + j * 7 + q, none⟩ = some u) (by kernel_rfl) (S0) (fun hS => ?_)
      refine wpAnyH_take (i := 0) (oi := { dst := some 34, op := Op.move (Operand.tmp 7), type := 42, pos := "law05.go:245", after := #[], guard := none }) (v := .pointer (some ⟨bf, 0, none⟩)) rfl (by kernel_rfl) (by kernel_rfl) (by kernel_rfl) (fun _ _ _ h => h) (Or.inl ⟨by kernel_rfl, fun W h => (by first | kernel_rfl | go_simp)⟩) hS ?_
      try simp only [Act.put, List.setIfInBounds_toArray, List.set_cons_zero, List.set_cons_succ]
      refine wpAnyH_take (i := 2) (oi := { dst := some 36, op := Op.move (Operand.tmp 0), type := 35, pos := "law05.go:245", after := #[], guard := none }) (v := .slice (some ⟨ga, oa, none⟩) L.length c) rfl (by kernel_rfl) (by kernel_rfl) (by kernel_rfl) (fun _ _ _ h => h) (Or.inl ⟨by kernel_rfl, fun W h => (by first | kernel_rfl | go_simp)⟩) hS ?_
      try simp only [Act.put, List.setIfInBounds_toArray, List.set_cons_zero, List.set_cons_succ]
      refine wpAnyH_take (i := 3) (oi := { dst := some 37, op := Op.move (Operand.tmp 8), type := 3, pos := "law05.go:245", after := #[], guard := none }) (v := .int .i64 (j : Nat)) rfl (by kernel_rfl) (by kernel_rfl) (by kernel_rfl) (fun _ _ _ h => h) (Or.inl ⟨by kernel_rfl, fun W h => (by first | kernel_rfl | go_simp)⟩) hS ?_
      try simp only [Act.put, List.setIfInBounds_toArray, List.set_cons_zero, List.set_cons_succ]
      refine wpAnyH_take (i := 4) (oi := { dst := some 38, op := Op.indexAddr 35 (Operand.tmp 36) (Operand.tmp 37), type := 0, pos := "law05.go:245", after := #[{ on := 2, ground := Ground.data }, { on := 3, ground := Ground.data }], guard := none }) (v := .pointer (some ⟨ga, oa + j * 7, none⟩)) rfl (by kernel_rfl) (by kernel_rfl) (by kernel_rfl) (fun _ _ _ h => h) (Or.inl ⟨by kernel_rfl, fun W h => Op1.ix_step (c := c) (.tmp 36) (.tmp 37) (by kernel_rfl) (by kernel_rfl) (by kernel_rfl) hlt W⟩) hS ?_
      try simp only [Act.put, List.setIfInBounds_toArray, List.set_cons_zero, List.set_cons_succ]
      refine wpAnyH_take (i := 5) (oi := { dst := some 39, op := Op.load 37 (Operand.tmp 38), type := 37, pos := "law05.go:245", after := #[{ on := 4, ground := Ground.data }], guard := none }) (v := .agg (stpA x)) rfl (by kernel_rfl) (by kernel_rfl) (by kernel_rfl) (fun _ _ _ h => h) (Or.inl ⟨by kernel_rfl, fun W h => Op1.ld_step (.tmp 38) (by kernel_rfl) (by kernel_rfl) x W h⟩) hS ?_
      try simp only [Act.put, List.setIfInBounds_toArray, List.set_cons_zero, List.set_cons_succ]
      refine wpAnyH_ready (rs := [1]) (by kernel_rfl) (by simp) ?_
      refine AllReadyH.cons (o := { dst := some 35, op := Op.call { callee := Callee.value (Operand.func 13), args := #[], argTypes := #[] }, type := 44, pos := "law05.go:245", after := #[], guard := none }) rfl (fun K hK => ?_) AllReadyH.nil
      rw [if_pos (by kernel_rfl)]
      go_simp
      refine (newBed_row _).mono ?_
      rintro e W5 ⟨gb, rfl, hgb, rgb, b5⟩
      have F5 := hide ((unhide F0).call b5)
      have NB := hide (show w.heap.size ≤ gb ∧ gb ≠ bf ∧ gb ≠ bc from ⟨by have := (unhide F0).bel.size; omega, by have := (unhide F0).cells.2.1; omega, by have := (unhide F0).cells.2.2.1; omega⟩)
      have S5 := unhide HCA _ (unhide F5).bel
      clear b5 hgb F0
      go_wp2_with fail
      refine hK.out _ _ (S5) (fun hS5 => ?_)
      clear hK K
      try simp only [Act.put, List.setIfInBounds_toArray, List.set_cons_zero, List.set_cons_succ]
      refine wpAnyH_ready (rs := [6]) (by kernel_rfl) (by simp) ?_
      refine AllReadyH.cons (o := { dst := some 40, op := Op.call { callee := Callee.value (Operand.func 17), args := #[Operand.tmp 34, Operand.tmp 35, Operand.tmp 39], argTypes := #[42, 44, 37] }, type := 4, pos := "law05.go:245", after := #[{ on := 0, ground := Ground.data }, { on := 1, ground := Ground.data }, { on := 5, ground := Ground.data }, { on := 1, ground := Ground.chain }], guard := none }) rfl (fun K hK => ?_) AllReadyH.nil
      rw [if_pos (by kernel_rfl)]
      go_simp
      refine (softStep_any (unhide F5) rgb (unhide NB).1 (unhide NB).2.1 (unhide NB).2.2 (unhide HK).good (by have := (unhide HK).few; omega) x (unhide HXO).1 (unhide HXO).2.1 (unhide HXO).2.2).mono ?_
      rintro e W6 ⟨⟨vb, rfl⟩, h6⟩
      have F6 := hide h6
      have S6 := unhide HCA _ h6.bel
      clear h6 F5 NB rgb
      go_wp2_with fail
      refine hK.out _ _ (S6) (fun hS6 => ?_)
      clear hK K
      try simp only [Act.put, List.setIfInBounds_toArray, List.set_cons_zero, List.set_cons_succ]
      refine wpAnyH_done (by kernel_rfl) ?_ _
      clear hS hS5 hS6 S0 S5 S6
      go_wp2_with fail
      go_roundw
      case rel => exact ⟨j + 1, _, _, _, by omega, by go_num, F6, K1⟩
      case measure => simp [intOf]; omega
    case neg =>
      clear HST HOk
      go_wp2_with fail
      go_cut [9, 10] (fun p q wx => ∃ g9 g10 cs ds, p = .pointer (some ⟨g9, 0, none⟩) ∧ q = .pointer (some ⟨g10, 0, none⟩) ∧ Hid (Bx wr wx ((g10, ds, 34) :: (g9, cs, 34) :: [])) ∧ Hid (IsImg cs m) ∧ Hid (IsImg ds k))
      case first =>
        obtain ⟨cs, ds, f⟩ := (unhide HF).it
        have hi := f.now
        have hj2 := f.disk
        have zi := hi.size
        have zj := hj2.size
        have hle : 0 + 94 ≤ (cs ++ ds).size := by simp [zi]
        have SK := hide (show ∀ W, Below wr.heap.size wr W → (fun W => W.cell? ⟨bf, 0, none⟩ = some (.pointer (some ⟨bc, 0, none⟩)) ∧ W.heap[bc]? = some (.cells (cs ++ ds) 57)) W from fun W b => ⟨(f.below b).ptr, (f.below b).row⟩)
        have B0 := hide ((Bx.start wr).call ((Below.refl _ wr).drew))
        have S0 := unhide SK _ (unhide B0).below
        have DK := hide fun W (h : (fun W => W.cell? ⟨bf, 0, none⟩ = some (.pointer (some ⟨bc, 0, none⟩)) ∧ W.heap[bc]? = some (.cells (cs ++ ds) 57)) W) => disk_any bc cs ds m k hi hj2 W h.2
        clear f
        refine wp_region_held_drew (S := fun W => W.cell? ⟨bf, 0, none⟩ = some (.pointer (some ⟨bc, 0, none⟩)) ∧ W.heap[bc]? = some (.cells (cs ++ ds) 57)) (by kernel_rfl) (S0) (fun hS => ?_)
        refine wpAnyH_take (i := 0) (oi := { dst := some 41, op := Op.move (Operand.tmp 7), type := 42, pos := "law05.go:247", after := #[], guard := none }) (v := .pointer (some ⟨bf, 0, none⟩)) rfl (by kernel_rfl) (by kernel_rfl) (by kernel_rfl) (fun _ _ _ h => h) (Or.inl ⟨by kernel_rfl, fun W h => (by first | kernel_rfl | go_simp)⟩) hS ?_
        try simp only [Act.put, List.setIfInBounds_toArray, List.set_cons_zero, List.set_cons_succ]
        refine wpAnyH_take (i := 1) (oi := { dst := some 42, op := Op.nilCheck (Operand.tmp 41), type := 0, pos := "law05.go:247", after := #[{ on := 0, ground := Ground.data }], guard := none }) (v := .pointer (some ⟨bf, 0, none⟩)) rfl (by kernel_rfl) (by kernel_rfl) (by kernel_rfl) (fun _ _ _ h => h) (Or.inl ⟨by kernel_rfl, fun W h => (by first | kernel_rfl | go_simp)⟩) hS ?_
        try simp only [Act.put, List.setIfInBounds_toArray, List.set_cons_zero, List.set_cons_succ]
        refine wpAnyH_take (i := 2) (oi := { dst := some 43, op := Op.fieldAddr 55 (Operand.tmp 42) 0, type := 0, pos := "law05.go:247", after := #[{ on := 1, ground := Ground.data }], guard := none }) (v := .pointer (some ⟨bf, 0, none⟩)) rfl (by kernel_rfl) (by kernel_rfl) (by kernel_rfl) (fun _ _ _ h => h) (Or.inl ⟨by kernel_rfl, fun W h => (by first | kernel_rfl | go_simp)⟩) hS ?_
        try simp only [Act.put, List.setIfInBounds_toArray, List.set_cons_zero, List.set_cons_succ]
        refine wpAnyH_take (i := 3) (oi := { dst := some 44, op := Op.load 53 (Operand.tmp 43), type := 53, pos := "law05.go:247", after := #[{ on := 2, ground := Ground.data }], guard := none }) (v := .pointer (some ⟨bc, 0, none⟩)) rfl (by kernel_rfl) (by kernel_rfl) (by kernel_rfl) (fun _ _ _ h => h) (Or.inl ⟨by kernel_rfl, fun W h => Op1.ld_ptr (.tmp 43) (by kernel_rfl) (by kernel_rfl) W (h.1)⟩) hS ?_
        try simp only [Act.put, List.setIfInBounds_toArray, List.set_cons_zero, List.set_cons_succ]
        refine wpAnyH_take (i := 4) (oi := { dst := some 45, op := Op.nilCheck (Operand.tmp 44), type := 0, pos := "law05.go:247", after := #[{ on := 3, ground := Ground.data }], guard := none }) (v := .pointer (some ⟨bc, 0, none⟩)) rfl (by kernel_rfl) (by kernel_rfl) (by kernel_rfl) (fun _ _ _ h => h) (Or.inl ⟨by kernel_rfl, fun W h => (by first | kernel_rfl | go_simp)⟩) hS ?_
        try simp only [Act.put, List.setIfInBounds_toArray, List.set_cons_zero, List.set_cons_succ]
        refine wpAnyH_take (i := 5) (oi := { dst := some 46, op := Op.fieldAddr 57 (Operand.tmp 45) 0, type := 0, pos := "law05.go:247", after := #[{ on := 4, ground := Ground.data }], guard := none }) (v := .pointer (some ⟨bc, 0, none⟩)) rfl (by kernel_rfl) (by kernel_rfl) (by kernel_rfl) (fun _ _ _ h => h) (Or.inl ⟨by kernel_rfl, fun W h => (by first | kernel_rfl | go_simp)⟩) hS ?_
        try simp only [Act.put, List.setIfInBounds_toArray, List.set_cons_zero, List.set_cons_succ]
        refine wpAnyH_take (i := 6) (oi := { dst := some 47, op := Op.load 34 (Operand.tmp 46), type := 34, pos := "law05.go:247", after := #[{ on := 5, ground := Ground.data }], guard := none }) (v := .agg cs) rfl (by kernel_rfl) (by kernel_rfl) (by kernel_rfl) (fun _ _ _ h => h) (Or.inl ⟨by kernel_rfl, fun W h => run_exec_load_part 34 (.tmp 46) (by kernel_rfl) bc 0 94 (by kernel_rfl) W 57 (cs ++ ds) cs _ (h.2) img_under rfl zero_img.2 (hle) (app_fst zi)⟩) hS ?_
        try simp only [Act.put, List.setIfInBounds_toArray, List.set_cons_zero, List.set_cons_succ]
        refine wpAnyH_take (i := 7) (oi := { dst := some 48, op := Op.move (Operand.tmp 7), type := 42, pos := "law05.go:247", after := #[], guard := none }) (v := .pointer (some ⟨bf, 0, none⟩)) rfl (by kernel_rfl) (by kernel_rfl) (by kernel_rfl) (fun _ _ _ h => h) (Or.inl ⟨by kernel_rfl, fun W h => (by first | kernel_rfl | go_simp)⟩) hS ?_
        try simp only [Act.put, List.setIfInBounds_toArray, List.set_cons_zero, List.set_cons_succ]
        refine wpAnyH_take (i := 8) (oi := { dst := some 49, op := Op.nilCheck (Operand.tmp 48), type := 0, pos := "law05.go:247", after := #[{ on := 7, ground := Ground.data }], guard := none }) (v := .pointer (some ⟨bf, 0, none⟩)) rfl (by kernel_rfl) (by kernel_rfl) (by kernel_rfl) (fun _ _ _ h => h) (Or.inl ⟨by kernel_rfl, fun W h => (by first | kernel_rfl | go_simp)⟩) hS ?_
        try simp only [Act.put, List.setIfInBounds_toArray, List.set_cons_zero, List.set_cons_succ]
        refine wpAnyH_take (i := 9) (oi := { dst := some 50, op := Op.fieldAddr 55 (Operand.tmp 49) 0, type := 0, pos := "law05.go:247", after := #[{ on := 8, ground := Ground.data }], guard := none }) (v := .pointer (some ⟨bf, 0, none⟩)) rfl (by kernel_rfl) (by kernel_rfl) (by kernel_rfl) (fun _ _ _ h => h) (Or.inl ⟨by kernel_rfl, fun W h => (by first | kernel_rfl | go_simp)⟩) hS ?_
        try simp only [Act.put, List.setIfInBounds_toArray, List.set_cons_zero, List.set_cons_succ]
        refine wpAnyH_take (i := 10) (oi := { dst := some 51, op := Op.load 53 (Operand.tmp 50), type := 53, pos := "law05.go:247", after := #[{ on := 9, ground := Ground.data }], guard := none }) (v := .pointer (some ⟨bc, 0, none⟩)) rfl (by kernel_rfl) (by kernel_rfl) (by kernel_rfl) (fun _ _ _ h => h) (Or.inl ⟨by kernel_rfl, fun W h => Op1.ld_ptr (.tmp 50) (by kernel_rfl) (by kernel_rfl) W (h.1)⟩) hS ?_
        try simp only [Act.put, List.setIfInBounds_toArray, List.set_cons_zero, List.set_cons_succ]
        generalize wr.drew = W0 at B0 hS ⊢
        refine wpAnyH_ready (rs := [11, 12, 13]) (by kernel_rfl) (by simp) ?_
        refine (AllReadyH.cons (o := { dst := some 52, op := Op.call { callee := Callee.value (Operand.func 18), args := #[Operand.tmp 51], argTypes := #[53] }, type := 34, pos := "law05.go:247", after := #[{ on := 10, ground := Ground.data }], guard := none }) rfl (fun K hK => ?_) (AllReadyH.cons (o := { dst := some 9, op := Op.alloc 34, type := 0, pos := "law05.go:247", after := #[], guard := none }) rfl (fun K hK => ?_) (AllReadyH.cons (o := { dst := some 10, op := Op.alloc 34, type := 0, pos := "law05.go:247", after := #[], guard := none }) rfl (fun K hK => ?_) AllReadyH.nil)))
        · rw [if_pos (by kernel_rfl)]
          go_simp
          refine (unhide DK _ hS).mono ?_
          rintro e V1 ⟨rfl, b1⟩
          have B1 := hide ((unhide B0).call b1)
          go_wp2_with fail
          refine hK.out _ _ (unhide SK _ (unhide B1).below) (fun hS1 => ?_)
          clear hK K
          try simp only [Act.put, List.setIfInBounds_toArray, List.set_cons_zero, List.set_cons_succ]
          refine wpAnyH_ready (rs := [12, 13]) (by kernel_rfl) (by simp) ?_
          refine (AllReadyH.cons (o := { dst := some 9, op := Op.alloc 34, type := 0, pos := "law05.go:247", after := #[], guard := none }) rfl (fun K hK => ?_) (AllReadyH.cons (o := { dst := some 10, op := Op.alloc 34, type := 0, pos := "law05.go:247", after := #[], guard := none }) rfl (fun K hK => ?_) AllReadyH.nil))
          · rw [if_pos (by kernel_rfl)]
            go_simp
            have B2 := hide ((unhide B1).box zeroCells 34)
            refine hK.out _ _ (unhide SK _ (unhide B2).below) (fun hS2 => ?_)
            clear hK K
            try simp only [Act.put, List.setIfInBounds_toArray, List.set_cons_zero, List.set_cons_succ]
            generalize V1.alloc (.cells zeroCells 34) = V2 at B2 hS2 ⊢
            generalize V1.heap.size = h2 at B2 ⊢
            refine wpAnyH_ready (rs := [13]) (by kernel_rfl) (by simp) ?_
            refine (AllReadyH.cons (o := { dst := some 10, op := Op.alloc 34, type := 0, pos := "law05.go:247", after := #[], guard := none }) rfl (fun K hK => ?_) AllReadyH.nil)
            · rw [if_pos (by kernel_rfl)]
              go_simp
              have B3 := hide ((unhide B2).box zeroCells 34)
              refine hK.out _ _ (unhide SK _ (unhide B3).below) (fun hS3 => ?_)
              clear hK K
              try simp only [Act.put, List.setIfInBounds_toArray, List.set_cons_zero, List.set_cons_succ]
              generalize V2.alloc (.cells zeroCells 34) = V3 at B3 hS3 ⊢
              generalize V2.heap.size = h3 at B3 ⊢
              have L9 := (unhide B3).hi (p := (h2, zeroCells, 34)) (by simp)
              have R9 := (unhide B3).row (h2, zeroCells, 34) (by simp)
              have B4a := hide ((unhide B3).mut1 (Mut.of (Below.refl _ V3) L9 (c' := cs) rfl R9))
              refine wpAnyH_ready (rs := [14]) (by kernel_rfl) (by simp) ?_
              refine AllReadyH.cons (o := { dst := none, op := Op.store 34 (Operand.tmp 9) (Operand.tmp 47), type := 0, pos := "law05.go:247", after := #[{ on := 12, ground := Ground.data }, { on := 6, ground := Ground.data }, { on := 11, ground := Ground.chain }, { on := 0, ground := Ground.phase }, { on := 1, ground := Ground.phase }, { on := 2, ground := Ground.phase }, { on := 3, ground := Ground.phase }, { on := 4, ground := Ground.phase }, { on := 5, ground := Ground.phase }, { on := 6, ground := Ground.phase }, { on := 7, ground := Ground.textOnly Departure.lateStores }, { on := 8, ground := Ground.textOnly Departure.lateStores }, { on := 9, ground := Ground.textOnly Departure.lateStores }, { on := 10, ground := Ground.textOnly Departure.lateStores }, { on := 11, ground := Ground.textOnly Departure.lateStoresUnsure }, { on := 12, ground := Ground.phase }, { on := 13, ground := Ground.phase }], guard := none }) rfl (fun K hK => ?_) AllReadyH.nil
              rw [if_pos (by kernel_rfl)]
              refine wp_store_row 34 (.tmp 9) (.tmp 47) rfl h2 cs (by kernel_rfl) (by kernel_rfl) 34 zeroCells R9 (img_info zi) (zero_size hi) hi.all ?_
              generalize V3.setRow h2 cs = V3a at B4a ⊢
              refine hK.out _ _ (unhide SK _ (unhide B4a).below) (fun hS4a => ?_)
              clear hK K
              try simp only [Act.put]
              have L10 := (unhide B4a).hi (p := (h3, zeroCells, 34)) (by simp)
              have R10 := (unhide B4a).row (h3, zeroCells, 34) (by simp)
              have B4b := hide ((unhide B4a).mut0 (Mut.of (Below.refl _ V3a) L10 (c' := ds) rfl R10))
              refine wpAnyH_ready (rs := [15]) (by kernel_rfl) (by simp) ?_
              refine AllReadyH.cons (o := { dst := none, op := Op.store 34 (Operand.tmp 10) (Operand.tmp 52), type := 0, pos := "law05.go:247", after := #[{ on := 13, ground := Ground.data }, { on := 11, ground := Ground.data }, { on := 14, ground := Ground.chain }, { on := 0, ground := Ground.phase }, { on := 1, ground := Ground.phase }, { on := 2, ground := Ground.phase }, { on := 3, ground := Ground.phase }, { on := 4, ground := Ground.phase }, { on := 5, ground := Ground.phase }, { on := 6, ground := Ground.phase }, { on := 7, ground := Ground.phase }, { on := 8, ground := Ground.phase }, { on := 9, ground := Ground.phase }, { on := 10, ground := Ground.phase }, { on := 11, ground := Ground.phase }, { on := 12, ground := Ground.phase }, { on := 13, ground := Ground.phase }, { on := 14, ground := Ground.phase }], guard := none }) rfl (fun K hK => ?_) AllReadyH.nil
              rw [if_pos (by kernel_rfl)]
              refine wp_store_row 34 (.tmp 10) (.tmp 52) rfl h3 ds (by kernel_rfl) (by kernel_rfl) 34 zeroCells R10 (img_info zj) (zero_size hj2) hj2.all ?_
              generalize V3a.setRow h3 ds = V3b at B4b ⊢
              refine hK.out _ _ (unhide SK _ (unhide B4b).below) (fun hS4b => ?_)
              clear hK K
              try simp only [Act.put]
              refine wpAnyH_done (by kernel_rfl) ?_ _
              go_wp2_with fail
              go_meet
              exact ⟨h2, h3, cs, ds, rfl, rfl, hide ((unhide B4b)), hide hi, hide hj2⟩
          · rw [if_pos (by kernel_rfl)]
            go_simp
            have B5 := hide ((unhide B1).box zeroCells 34)
            refine hK.out _ _ (unhide SK _ (unhide B5).below) (fun hS5 => ?_)
            clear hK K
            try simp only [Act.put, List.setIfInBounds_toArray, List.set_cons_zero, List.set_cons_succ]
            generalize V1.alloc (.cells zeroCells 34) = V5 at B5 hS5 ⊢
            generalize V1.heap.size = h5 at B5 ⊢
            refine wpAnyH_ready (rs := [12]) (by kernel_rfl) (by simp) ?_
            refine (AllReadyH.cons (o := { dst := some 9, op := Op.alloc 34, type := 0, pos := "law05.go:247", after := #[], guard := none }) rfl (fun K hK => ?_) AllReadyH.nil)
            · rw [if_pos (by kernel_rfl)]
              go_simp
              have B6 := hide ((unhide B5).box zeroCells 34)
              refine hK.out _ _ (unhide SK _ (unhide B6).below) (fun hS6 => ?_)
              clear hK K
              try simp only [Act.put, List.setIfInBounds_toArray, List.set_cons_zero, List.set_cons_succ]
              generalize V5.alloc (.cells zeroCells 34) = V6 at B6 hS6 ⊢
              generalize V5.heap.size = h6 at B6 ⊢
              have L9 := (unhide B6).hi (p := (h6, zeroCells, 34)) (by simp)
              have R9 := (unhide B6).row (h6, zeroCells, 34) (by simp)
              have B7a := hide ((unhide B6).mut0 (Mut.of (Below.refl _ V6) L9 (c' := cs) rfl R9))
              refine wpAnyH_ready (rs := [14]) (by kernel_rfl) (by simp) ?_
              refine AllReadyH.cons (o := { dst := none, op := Op.store 34 (Operand.tmp 9) (Operand.tmp 47), type := 0, pos := "law05.go:247", after := #[{ on := 12, ground := Ground.data }, { on := 6, ground := Ground.data }, { on := 11, ground := Ground.chain }, { on := 0, ground := Ground.phase }, { on := 1, ground := Ground.phase }, { on := 2, ground := Ground.phase }, { on := 3, ground := Ground.phase }, { on := 4, ground := Ground.phase }, { on := 5, ground := Ground.phase }, { on := 6, ground := Ground.phase }, { on := 7, ground := Ground.textOnly Departure.lateStores }, { on := 8, ground := Ground.textOnly Departure.lateStores }, { on := 9, ground := Ground.textOnly Departure.lateStores }, { on := 10, ground := Ground.textOnly Departure.lateStores }, { on := 11, ground := Ground.textOnly Departure.lateStoresUnsure }, { on := 12, ground := Ground.phase }, { on := 13, ground := Ground.phase }], guard := none }) rfl (fun K hK => ?_) AllReadyH.nil
              rw [if_pos (by kernel_rfl)]
              refine wp_store_row 34 (.tmp 9) (.tmp 47) rfl h6 cs (by kernel_rfl) (by kernel_rfl) 34 zeroCells R9 (img_info zi) (zero_size hi) hi.all ?_
              generalize V6.setRow h6 cs = V6a at B7a ⊢
              refine hK.out _ _ (unhide SK _ (unhide B7a).below) (fun hS7a => ?_)
              clear hK K
              try simp only [Act.put]
              have L10 := (unhide B7a).hi (p := (h5, zeroCells, 34)) (by simp)
              have R10 := (unhide B7a).row (h5, zeroCells, 34) (by simp)
              have B7b := hide ((unhide B7a).mut1 (Mut.of (Below.refl _ V6a) L10 (c' := ds) rfl R10))
              refine wpAnyH_ready (rs := [15]) (by kernel_rfl) (by simp) ?_
              refine AllReadyH.cons (o := { dst := none, op := Op.store 34 (Operand.tmp 10) (Operand.tmp 52), type := 0, pos := "law05.go:247", after := #[{ on := 13, ground := Ground.data }, { on := 11, ground := Ground.data }, { on := 14, ground := Ground.chain }, { on := 0, ground := Ground.phase }, { on := 1, ground := Ground.phase }, { on := 2, ground := Ground.phase }, { on := 3, ground := Ground.phase }, { on := 4, ground := Ground.phase }, { on := 5, ground := Ground.phase }, { on := 6, ground := Ground.phase }, { on := 7, ground := Ground.phase }, { on := 8, ground := Ground.phase }, { on := 9, ground := Ground.phase }, { on := 10, ground := Ground.phase }, { on := 11, ground := Ground.phase }, { on := 12, ground := Ground.phase }, { on := 13, ground := Ground.phase }, { on := 14, ground := Ground.phase }], guard := none }) rfl (fun K hK => ?_) AllReadyH.nil
              rw [if_pos (by kernel_rfl)]
              refine wp_store_row 34 (.tmp 10) (.tmp 52) rfl h5 ds (by kernel_rfl) (by kernel_rfl) 34 zeroCells R10 (img_info zj) (zero_size hj2) hj2.all ?_
              generalize V6a.setRow h5 ds = V6b at B7b ⊢
              refine hK.out _ _ (unhide SK _ (unhide B7b).below) (fun hS7b => ?_)
              clear hK K
              try simp only [Act.put]
              refine wpAnyH_done (by kernel_rfl) ?_ _
              go_wp2_with fail
              go_meet
              exact ⟨h6, h5, cs, ds, rfl, rfl, hide ((unhide B7b).swap), hide hi, hide hj2⟩
        · rw [if_pos (by kernel_rfl)]
          go_simp
          have B8 := hide ((unhide B0).box zeroCells 34)
          refine hK.out _ _ (unhide SK _ (unhide B8).below) (fun hS8 => ?_)
          clear hK K
          try simp only [Act.put, List.setIfInBounds_toArray, List.set_cons_zero, List.set_cons_succ]
          generalize W0.alloc (.cells zeroCells 34) = V8 at B8 hS8 ⊢
          generalize W0.heap.size = h8 at B8 ⊢
          refine wpAnyH_ready (rs := [11, 13]) (by kernel_rfl) (by simp) ?_
          refine (AllReadyH.cons (o := { dst := some 52, op := Op.call { callee := Callee.value (Operand.func 18), args := #[Operand.tmp 51], argTypes := #[53] }, type := 34, pos := "law05.go:247", after := #[{ on := 10, ground := Ground.data }], guard := none }) rfl (fun K hK => ?_) (AllReadyH.cons (o := { dst := some 10, op := Op.alloc 34, type := 0, pos := "law05.go:247", after := #[], guard := none }) rfl (fun K hK => ?_) AllReadyH.nil))
          · rw [if_pos (by kernel_rfl)]
            go_simp
            refine (unhide DK _ hS8).mono ?_
            rintro e V9 ⟨rfl, b9⟩
            have B9 := hide ((unhide B8).call b9)
            go_wp2_with fail
            refine hK.out _ _ (unhide SK _ (unhide B9).below) (fun hS9 => ?_)
            clear hK K
            try simp only [Act.put, List.setIfInBounds_toArray, List.set_cons_zero, List.set_cons_succ]
            refine wpAnyH_ready (rs := [13]) (by kernel_rfl) (by simp) ?_
            refine (AllReadyH.cons (o := { dst := some 10, op := Op.alloc 34, type := 0, pos := "law05.go:247", after := #[], guard := none }) rfl (fun K hK => ?_) AllReadyH.nil)
            · rw [if_pos (by kernel_rfl)]
              go_simp
              have B10 := hide ((unhide B9).box zeroCells 34)
              refine hK.out _ _ (unhide SK _ (unhide B10).below) (fun hS10 => ?_)
              clear hK K
              try simp only [Act.put, List.setIfInBounds_toArray, List.set_cons_zero, List.set_cons_succ]
              generalize V9.alloc (.cells zeroCells 34) = V10 at B10 hS10 ⊢
              generalize V9.heap.size = h10 at B10 ⊢
              have L9 := (unhide B10).hi (p := (h8, zeroCells, 34)) (by simp)
              have R9 := (unhide B10).row (h8, zeroCells, 34) (by simp)
              have B11a := hide ((unhide B10).mut1 (Mut.of (Below.refl _ V10) L9 (c' := cs) rfl R9))
              refine wpAnyH_ready (rs := [14]) (by kernel_rfl) (by simp) ?_
              refine AllReadyH.cons (o := { dst := none, op := Op.store 34 (Operand.tmp 9) (Operand.tmp 47), type := 0, pos := "law05.go:247", after := #[{ on := 12, ground := Ground.data }, { on := 6, ground := Ground.data }, { on := 11, ground := Ground.chain }, { on := 0, ground := Ground.phase }, { on := 1, ground := Ground.phase }, { on := 2, ground := Ground.phase }, { on := 3, ground := Ground.phase }, { on := 4, ground := Ground.phase }, { on := 5, ground := Ground.phase }, { on := 6, ground := Ground.phase }, { on := 7, ground := Ground.textOnly Departure.lateStores }, { on := 8, ground := Ground.textOnly Departure.lateStores }, { on := 9, ground := Ground.textOnly Departure.lateStores }, { on := 10, ground := Ground.textOnly Departure.lateStores }, { on := 11, ground := Ground.textOnly Departure.lateStoresUnsure }, { on := 12, ground := Ground.phase }, { on := 13, ground := Ground.phase }], guard := none }) rfl (fun K hK => ?_) AllReadyH.nil
              rw [if_pos (by kernel_rfl)]
              refine wp_store_row 34 (.tmp 9) (.tmp 47) rfl h8 cs (by kernel_rfl) (by kernel_rfl) 34 zeroCells R9 (img_info zi) (zero_size hi) hi.all ?_
              generalize V10.setRow h8 cs = V10a at B11a ⊢
              refine hK.out _ _ (unhide SK _ (unhide B11a).below) (fun hS11a => ?_)
              clear hK K
              try simp only [Act.put]
              have L10 := (unhide B11a).hi (p := (h10, zeroCells, 34)) (by simp)
              have R10 := (unhide B11a).row (h10, zeroCells, 34) (by simp)
              have B11b := hide ((unhide B11a).mut0 (Mut.of (Below.refl _ V10a) L10 (c' := ds) rfl R10))
              refine wpAnyH_ready (rs := [15]) (by kernel_rfl) (by simp) ?_
              refine AllReadyH.cons (o := { dst := none, op := Op.store 34 (Operand.tmp 10) (Operand.tmp 52), type := 0, pos := "law05.go:247", after := #[{ on := 13, ground := Ground.data }, { on := 11, ground := Ground.data }, { on := 14, ground := Ground.chain }, { on := 0, ground := Ground.phase }, { on := 1, ground := Ground.phase }, { on := 2, ground := Ground.phase }, { on := 3, ground := Ground.phase }, { on := 4, ground := Ground.phase }, { on := 5, ground := Ground.phase }, { on := 6, ground := Ground.phase }, { on := 7, ground := Ground.phase }, { on := 8, ground := Ground.phase }, { on := 9, ground := Ground.phase }, { on := 10, ground := Ground.phase }, { on := 11, ground := Ground.phase }, { on := 12, ground := Ground.phase }, { on := 13, ground := Ground.phase }, { on := 14, ground := Ground.phase }], guard := none }) rfl (fun K hK => ?_) AllReadyH.nil
              rw [if_pos (by kernel_rfl)]
              refine wp_store_row 34 (.tmp 10) (.tmp 52) rfl h10 ds (by kernel_rfl) (by kernel_rfl) 34 zeroCells R10 (img_info zj) (zero_size hj2) hj2.all ?_
              generalize V10a.setRow h10 ds = V10b at B11b ⊢
              refine hK.out _ _ (unhide SK _ (unhide B11b).below) (fun hS11b => ?_)
              clear hK K
              try simp only [Act.put]
              refine wpAnyH_done (by kernel_rfl) ?_ _
              go_wp2_with fail
              go_meet
              exact ⟨h8, h10, cs, ds, rfl, rfl, hide ((unhide B11b)), hide hi, hide hj2⟩
          · rw [if_pos (by kernel_rfl)]
            go_simp
            have B12 := hide ((unhide B8).box zeroCells 34)
            refine hK.out _ _ (unhide SK _ (unhide B12).below) (fun hS12 => ?_)
            clear hK K
            try simp only [Act.put, List.setIfInBounds_toArray, List.set_cons_zero, List.set_cons_succ]
            generalize V8.alloc (.cells zeroCells 34) = V12 at B12 hS12 ⊢
            generalize V8.heap.size = h12 at B12 ⊢
            refine wpAnyH_ready (rs := [11]) (by kernel_rfl) (by simp) ?_
            refine (AllReadyH.cons (o := { dst := some 52, op := Op.call { callee := Callee.value (Operand.func 18), args := #[Operand.tmp 51], argTypes := #[53] }, type := 34, pos := "law05.go:247", after := #[{ on := 10, ground := Ground.data }], guard := none }) rfl (fun K hK => ?_) AllReadyH.nil)
            · rw [if_pos (by kernel_rfl)]
              go_simp
              refine (unhide DK _ hS12).mono ?_
              rintro e V13 ⟨rfl, b13⟩
              have B13 := hide ((unhide B12).call b13)
              go_wp2_with fail
              refine hK.out _ _ (unhide SK _ (unhide B13).below) (fun hS13 => ?_)
              clear hK K
              try simp only [Act.put, List.setIfInBounds_toArray, List.set_cons_zero, List.set_cons_succ]
              have L9 := (unhide B13).hi (p := (h8, zeroCells, 34)) (by simp)
              have R9 := (unhide B13).row (h8, zeroCells, 34) (by simp)
              have B14a := hide ((unhide B13).mut1 (Mut.of (Below.refl _ V13) L9 (c' := cs) rfl R9))
              refine wpAnyH_ready (rs := [14]) (by kernel_rfl) (by simp) ?_
              refine AllReadyH.cons (o := { dst := none, op := Op.store 34 (Operand.tmp 9) (Operand.tmp 47), type := 0, pos := "law05.go:247", after := #[{ on := 12, ground := Ground.data }, { on := 6, ground := Ground.data }, { on := 11, ground := Ground.chain }, { on := 0, ground := Ground.phase }, { on := 1, ground := Ground.phase }, { on := 2, ground := Ground.phase }, { on := 3, ground := Ground.phase }, { on := 4, ground := Ground.phase }, { on := 5, ground := Ground.phase }, { on := 6, ground := Ground.phase }, { on := 7, ground := Ground.textOnly Departure.lateStores }, { on := 8, ground := Ground.textOnly Departure.lateStores }, { on := 9, ground := Ground.textOnly Departure.lateStores }, { on := 10, ground := Ground.textOnly Departure.lateStores }, { on := 11, ground := Ground.textOnly Departure.lateStoresUnsure }, { on := 12, ground := Ground.phase }, { on := 13, ground := Ground.phase }], guard := none }) rfl (fun K hK => ?_) AllReadyH.nil
              rw [if_pos (by kernel_rfl)]
              refine wp_store_row 34 (.tmp 9) (.tmp 47) rfl h8 cs (by kernel_rfl) (by kernel_rfl) 34 zeroCells R9 (img_info zi) (zero_size hi) hi.all ?_
              generalize V13.setRow h8 cs = V13a at B14a ⊢
              refine hK.out _ _ (unhide SK _ (unhide B14a).below) (fun hS14a => ?_)
              clear hK K
              try simp only [Act.put]
              have L10 := (unhide B14a).hi (p := (h12, zeroCells, 34)) (by simp)
              have R10 := (unhide B14a).row (h12, zeroCells, 34) (by simp)
              have B14b := hide ((unhide B14a).mut0 (Mut.of (Below.refl _ V13a) L10 (c' := ds) rfl R10))
              refine wpAnyH_ready (rs := [15]) (by kernel_rfl) (by simp) ?_
              refine AllReadyH.cons (o := { dst := none, op := Op.store 34 (Operand.tmp 10) (Operand.tmp 52), type := 0, pos := "law05.go:247", after := #[{ on := 13, ground := Ground.data }, { on := 11, ground := Ground.data }, { on := 14, ground := Ground.chain }, { on := 0, ground := Ground.phase }, { on := 1, ground := Ground.phase }, { on := 2, ground := Ground.phase }, { on := 3, ground := Ground.phase }, { on := 4, ground := Ground.phase }, { on := 5, ground := Ground.phase }, { on := 6, ground := Ground.phase }, { on := 7, ground := Ground.phase }, { on := 8, ground := Ground.phase }, { on := 9, ground := Ground.phase }, { on := 10, ground := Ground.phase }, { on := 11, ground := Ground.phase }, { on := 12, ground := Ground.phase }, { on := 13, ground := Ground.phase }, { on := 14, ground := Ground.phase }], guard := none }) rfl (fun K hK => ?_) AllReadyH.nil
              rw [if_pos (by kernel_rfl)]
              refine wp_store_row 34 (.tmp 10) (.tmp 52) rfl h12 ds (by kernel_rfl) (by kernel_rfl) 34 zeroCells R10 (img_info zj) (zero_size hj2) hj2.all ?_
              generalize V13a.setRow h12 ds = V13b at B14b ⊢
              refine hK.out _ _ (unhide SK _ (unhide B14b).below) (fun hS14b => ?_)
              clear hK K
              try simp only [Act.put]
              refine wpAnyH_done (by kernel_rfl) ?_ _
              go_wp2_with fail
              go_meet
              exact ⟨h8, h12, cs, ds, rfl, rfl, hide ((unhide B14b)), hide hi, hide hj2⟩
        · rw [if_pos (by kernel_rfl)]
          go_simp
          have B15 := hide ((unhide B0).box zeroCells 34)
          refine hK.out _ _ (unhide SK _ (unhide B15).below) (fun hS15 => ?_)
          clear hK K
          try simp only [Act.put, List.setIfInBounds_toArray, List.set_cons_zero, List.set_cons_succ]
          generalize W0.alloc (.cells zeroCells 34) = V15 at B15 hS15 ⊢
          generalize W0.heap.size = h15 at B15 ⊢
          refine wpAnyH_ready (rs := [11, 12]) (by kernel_rfl) (by simp) ?_
          refine (AllReadyH.cons (o := { dst := some 52, op := Op.call { callee := Callee.value (Operand.func 18), args := #[Operand.tmp 51], argTypes := #[53] }, type := 34, pos := "law05.go:247", after := #[{ on := 10, ground := Ground.data }], guard := none }) rfl (fun K hK => ?_) (AllReadyH.cons (o := { dst := some 9, op := Op.alloc 34, type := 0, pos := "law05.go:247", after := #[], guard := none }) rfl (fun K hK => ?_) AllReadyH.nil))
          · rw [if_pos (by kernel_rfl)]
            go_simp
            refine (unhide DK _ hS15).mono ?_
            rintro e V16 ⟨rfl, b16⟩
            have B16 := hide ((unhide B15).call b16)
            go_wp2_with fail
            refine hK.out _ _ (unhide SK _ (unhide B16).below) (fun hS16 => ?_)
            clear hK K
            try simp only [Act.put, List.setIfInBounds_toArray, List.set_cons_zero, List.set_cons_succ]
            refine wpAnyH_ready (rs := [12]) (by kernel_rfl) (by simp) ?_
            refine (AllReadyH.cons (o := { dst := some 9, op := Op.alloc 34, type := 0, pos := "law05.go:247", after := #[], guard := none }) rfl (fun K hK => ?_) AllReadyH.nil)
            · rw [if_pos (by kernel_rfl)]
              go_simp
              have B17 := hide ((unhide B16).box zeroCells 34)
              refine hK.out _ _ (unhide SK _ (unhide B17).below) (fun hS17 => ?_)
              clear hK K
              try simp only [Act.put, List.setIfInBounds_toArray, List.set_cons_zero, List.set_cons_succ]
              generalize V16.alloc (.cells zeroCells 34) = V17 at B17 hS17 ⊢
              generalize V16.heap.size = h17 at B17 ⊢
              have L9 := (unhide B17).hi (p := (h17, zeroCells, 34)) (by simp)
              have R9 := (unhide B17).row (h17, zeroCells, 34) (by simp)
              have B18a := hide ((unhide B17).mut0 (Mut.of (Below.refl _ V17) L9 (c' := cs) rfl R9))
              refine wpAnyH_ready (rs := [14]) (by kernel_rfl) (by simp) ?_
              refine AllReadyH.cons (o := { dst := none, op := Op.store 34 (Operand.tmp 9) (Operand.tmp 47), type := 0, pos := "law05.go:247", after := #[{ on := 12, ground := Ground.data }, { on := 6, ground := Ground.data }, { on := 11, ground := Ground.chain }, { on := 0, ground := Ground.phase }, { on := 1, ground := Ground.phase }, { on := 2, ground := Ground.phase }, { on := 3, ground := Ground.phase }, { on := 4, ground := Ground.phase }, { on := 5, ground := Ground.phase }, { on := 6, ground := Ground.phase }, { on := 7, ground := Ground.textOnly Departure.lateStores }, { on := 8, ground := Ground.textOnly Departure.lateStores }, { on := 9, ground := Ground.textOnly Departure.lateStores }, { on := 10, ground := Ground.textOnly Departure.lateStores }, { on := 11, ground := Ground.textOnly Departure.lateStoresUnsure }, { on := 12, ground := Ground.phase }, { on := 13, ground := Ground.phase }], guard := none }) rfl (fun K hK => ?_) AllReadyH.nil
              rw [if_pos (by kernel_rfl)]
              refine wp_store_row 34 (.tmp 9) (.tmp 47) rfl h17 cs (by kernel_rfl) (by kernel_rfl) 34 zeroCells R9 (img_info zi) (zero_size hi) hi.all ?_
              generalize V17.setRow h17 cs = V17a at B18a ⊢
              refine hK.out _ _ (unhide SK _ (unhide B18a).below) (fun hS18a => ?_)
              clear hK K
              try simp only [Act.put]
              have L10 := (unhide B18a).hi (p := (h15, zeroCells, 34)) (by simp)
              have R10 := (unhide B18a).row (h15, zeroCells, 34) (by simp)
              have B18b := hide ((unhide B18a).mut1 (Mut.of (Below.refl _ V17a) L10 (c' := ds) rfl R10))
              refine wpAnyH_ready (rs := [15]) (by kernel_rfl) (by simp) ?_
              refine AllReadyH.cons (o := { dst := none, op := Op.store 34 (Operand.tmp 10) (Operand.tmp 52), type := 0, pos := "law05.go:247", after := #[{ on := 13, ground := Ground.data }, { on := 11, ground := Ground.data }, { on := 14, ground := Ground.chain }, { on := 0, ground := Ground.phase }, { on := 1, ground := Ground.phase }, { on := 2, ground := Ground.phase }, { on := 3, ground := Ground.phase }, { on := 4, ground := Ground.phase }, { on := 5, ground := Ground.phase }, { on := 6, ground := Ground.phase }, { on := 7, ground := Ground.phase }, { on := 8, ground := Ground.phase }, { on := 9, ground := Ground.phase }, { on := 10, ground := Ground.phase }, { on := 11, ground := Ground.phase }, { on := 12, ground := Ground.phase }, { on := 13, ground := Ground.phase }, { on := 14, ground := Ground.phase }], guard := none }) rfl (fun K hK => ?_) AllReadyH.nil
              rw [if_pos (by kernel_rfl)]
              refine wp_store_row 34 (.tmp 10) (.tmp 52) rfl h15 ds (by kernel_rfl) (by kernel_rfl) 34 zeroCells R10 (img_info zj) (zero_size hj2) hj2.all ?_
              generalize V17a.setRow h15 ds = V17b at B18b ⊢
              refine hK.out _ _ (unhide SK _ (unhide B18b).below) (fun hS18b => ?_)
              clear hK K
              try simp only [Act.put]
              refine wpAnyH_done (by kernel_rfl) ?_ _
              go_wp2_with fail
              go_meet
              exact ⟨h17, h15, cs, ds, rfl, rfl, hide ((unhide B18b).swap), hide hi, hide hj2⟩
          · rw [if_pos (by kernel_rfl)]
            go_simp
            have B19 := hide ((unhide B15).box zeroCells 34)
            refine hK.out _ _ (unhide SK _ (unhide B19).below) (fun hS19 => ?_)
            clear hK K
            try simp only [Act.put, List.setIfInBounds_toArray, List.set_cons_zero, List.set_cons_succ]
            generalize V15.alloc (.cells zeroCells 34) = V19 at B19 hS19 ⊢
            generalize V15.heap.size = h19 at B19 ⊢
            refine wpAnyH_ready (rs := [11]) (by kernel_rfl) (by simp) ?_
            refine (AllReadyH.cons (o := { dst := some 52, op := Op.call { callee := Callee.value (Operand.func 18), args := #[Operand.tmp 51], argTypes := #[53] }, type := 34, pos := "law05.go:247", after := #[{ on := 10, ground := Ground.data }], guard := none }) rfl (fun K hK => ?_) AllReadyH.nil)
            · rw [if_pos (by kernel_rfl)]
              go_simp
              refine (unhide DK _ hS19).mono ?_
              rintro e V20 ⟨rfl, b20⟩
              have B20 := hide ((unhide B19).call b20)
              go_wp2_with fail
              refine hK.out _ _ (unhide SK _ (unhide B20).below) (fun hS20 => ?_)
              clear hK K
              try simp only [Act.put, List.setIfInBounds_toArray, List.set_cons_zero, List.set_cons_succ]
              have L9 := (unhide B20).hi (p := (h19, zeroCells, 34)) (by simp)
              have R9 := (unhide B20).row (h19, zeroCells, 34) (by simp)
              have B21a := hide ((unhide B20).mut0 (Mut.of (Below.refl _ V20) L9 (c' := cs) rfl R9))
              refine wpAnyH_ready (rs := [14]) (by kernel_rfl) (by simp) ?_
              refine AllReadyH.cons (o := { dst := none, op := Op.store 34 (Operand.tmp 9) (Operand.tmp 47), type := 0, pos := "law05.go:247", after := #[{ on := 12, ground := Ground.data }, { on := 6, ground := Ground.data }, { on := 11, ground := Ground.chain }, { on := 0, ground := Ground.phase }, { on := 1, ground := Ground.phase }, { on := 2, ground := Ground.phase }, { on := 3, ground := Ground.phase }, { on := 4, ground := Ground.phase }, { on := 5, ground := Ground.phase }, { on := 6, ground := Ground.phase }, { on := 7, ground := Ground.textOnly Departure.lateStores }, { on := 8, ground := Ground.textOnly Departure.lateStores }, { on := 9, ground := Ground.textOnly Departure.lateStores }, { on := 10, ground := Ground.textOnly Departure.lateStores }, { on := 11, ground := Ground.textOnly Departure.lateStoresUnsure }, { on := 12, ground := Ground.phase }, { on := 13, ground := Ground.phase }], guard := none }) rfl (fun K hK => ?_) AllReadyH.nil
              rw [if_pos (by kernel_rfl)]
              refine wp_store_row 34 (.tmp 9) (.tmp 47) rfl h19 cs (by kernel_rfl) (by kernel_rfl) 34 zeroCells R9 (img_info zi) (zero_size hi) hi.all ?_
              generalize V20.setRow h19 cs = V20a at B21a ⊢
              refine hK.out _ _ (unhide SK _ (unhide B21a).below) (fun hS21a => ?_)
              clear hK K
              try simp only [Act.put]
              have L10 := (unhide B21a).hi (p := (h15, zeroCells, 34)) (by simp)
              have R10 := (unhide B21a).row (h15, zeroCells, 34) (by simp)
              have B21b := hide ((unhide B21a).mut1 (Mut.of (Below.refl _ V20a) L10 (c' := ds) rfl R10))
              refine wpAnyH_ready (rs := [15]) (by kernel_rfl) (by simp) ?_
              refine AllReadyH.cons (o := { dst := none, op := Op.store 34 (Operand.tmp 10) (Operand.tmp 52), type := 0, pos := "law05.go:247", after := #[{ on := 13, ground := Ground.data }, { on := 11, ground := Ground.data }, { on := 14, ground := Ground.chain }, { on := 0, ground := Ground.phase }, { on := 1, ground := Ground.phase }, { on := 2, ground := Ground.phase }, { on := 3, ground := Ground.phase }, { on := 4, ground := Ground.phase }, { on := 5, ground := Ground.phase }, { on := 6, ground := Ground.phase }, { on := 7, ground := Ground.phase }, { on := 8, ground := Ground.phase }, { on := 9, ground := Ground.phase }, { on := 10, ground := Ground.phase }, { on := 11, ground := Ground.phase }, { on := 12, ground := Ground.phase }, { on := 13, ground := Ground.phase }, { on := 14, ground := Ground.phase }], guard := none }) rfl (fun K hK => ?_) AllReadyH.nil
              rw [if_pos (by kernel_rfl)]
              refine wp_store_row 34 (.tmp 10) (.tmp 52) rfl h15 ds (by kernel_rfl) (by kernel_rfl) 34 zeroCells R10 (img_info zj) (zero_size hj2) hj2.all ?_
              generalize V20a.setRow h15 ds = V20b at B21b ⊢
              refine hK.out _ _ (unhide SK _ (unhide B21b).below) (fun hS21b => ?_)
              clear hK K
              try simp only [Act.put]
              refine wpAnyH_done (by kernel_rfl) ?_ _
              go_wp2_with fail
              go_meet
              exact ⟨h19, h15, cs, ds, rfl, rfl, hide ((unhide B21b).swap), hide hi, hide hj2⟩
      case rest =>
        obtain ⟨g9, g10, cs, ds, rfl, rfl, HB, HI, HJ⟩ := hcut
        have hj200 : j ≤ 200 := by omega
        have F1 := hide ((unhide HF).call (unhide HB).below)
        have R9 := (unhide HB).row (g9, cs, 34) (by simp)
        have R10 := (unhide HB).row (g10, ds, 34) (by simp)
        have NE := hide (show (g9 ≠ bf ∧ g9 ≠ bc) ∧ g10 ≠ bf ∧ g10 ≠ bc from by
          have h1 := (unhide HB).lo (g9, cs, 34) (by simp)
          have h2 := (unhide HB).lo (g10, ds, 34) (by simp)
          have h3 := (unhide HF).cells.2.1
          have h4 := (unhide HF).cells.2.2.1
          dsimp only at h1 h2
          exact ⟨⟨by omega, by omega⟩, by omega, by omega⟩)
        have DO := hide ((unhide F1).step (unhide HK).good (by have := (unhide HK).few; omega) ⟨1, d, 0, 0, nm, Idl.none0, Idl.none0⟩ (unhide HNM) (small _ (Nat.zero_le _)) (small _ (Nat.zero_le _)))
        have KN := hide ((unhide HK).step ⟨1, d, 0, 0, nm, Idl.none0, Idl.none0⟩)
        clear HB HF
        by_cases hc : Img.scode m k ⟨1, d, 0, 0, nm, Idl.none0, Idl.none0⟩ = 0
        case neg =>
          have CN : (Img.scode m k ⟨1, d, 0, 0, nm, Idl.none0, Idl.none0⟩ != 0) = true := by simpa using hc
          rw [Img.sstep_code hc, Img.slast_code hc] at DO
          clear hc KN
          generalize Img.scode m k ⟨1, d, 0, 0, nm, Idl.none0, Idl.none0⟩ = cd at DO CN
          simp only [stpA, Idl.none0] at DO
          go_wp2_with fail
          refine (unhide DO).mono ?_
          rintro e W5 ⟨rfl, f5, c5⟩
          have R9' : W5.heap[g9]? = some (.cells cs 34) := by rw [c5.block g9 (Array.getElem?_eq_some_iff.1 R9).1 (fun z => z.elim (unhide NE).1.1 (unhide NE).1.2)]; exact R9
          obtain ⟨es, fs, f⟩ := f5.it
          have ze := f.now.size
          have hi := unhide HI
          have zi := hi.size
          have hlf : 0 + 94 ≤ (es ++ fs).size := by simp [ze]
          have QN := hide (show ∀ w, (binOp .eql 34 (.agg es) (.agg cs)).run Tryz.prog w = .ok (.bool true) w from fun w => by have := eqlImg f.now hi w; rwa [Img.same_iff.2 (Img.Agree.refl m)] at this)
          have F5 := hide f5
          have S5 : (fun W : World => W.cell? ⟨bf, 0, none⟩ = some (.pointer (some ⟨bc, 0, none⟩)) ∧ W.heap[bc]? = some (.cells (es ++ fs) 57) ∧ W.heap[g9]? = some (.cells cs 34)) W5.drew := ⟨f.ptr, f.row, R9'⟩
          clear f f5 c5 DO F1 R9 R10 R9'
          go_wp2_with fail
          refine wp_region_held_drew (S := fun W : World => W.cell? ⟨bf, 0, none⟩ = some (.pointer (some ⟨bc, 0, none⟩)) ∧ W.heap[bc]? = some (.cells (es ++ fs) 57) ∧ W.heap[g9]? = some (.cells cs 34)) (by kernel_rfl) (S5) (fun hS => ?_)
          refine wpAnyH_take (i := 0) (oi := { dst := some 59, op := Op.move (Operand.tmp 7), type := 42, pos := "law05.go:249", after := #[], guard := none }) (v := .pointer (some ⟨bf, 0, none⟩)) rfl (by kernel_rfl) (by kernel_rfl) (by kernel_rfl) (fun _ _ _ h => h) (Or.inl ⟨by kernel_rfl, fun W h => (by first | kernel_rfl | go_simp)⟩) hS ?_
          try simp only [Act.put, List.setIfInBounds_toArray, List.set_cons_zero, List.set_cons_succ]
          refine wpAnyH_take (i := 1) (oi := { dst := some 60, op := Op.nilCheck (Operand.tmp 59), type := 0, pos := "law05.go:249", after := #[{ on := 0, ground := Ground.data }], guard := none }) (v := .pointer (some ⟨bf, 0, none⟩)) rfl (by kernel_rfl) (by kernel_rfl) (by kernel_rfl) (fun _ _ _ h => h) (Or.inl ⟨by kernel_rfl, fun W h => (by first | kernel_rfl | go_simp)⟩) hS ?_
          try simp only [Act.put, List.setIfInBounds_toArray, List.set_cons_zero, List.set_cons_succ]
          refine wpAnyH_take (i := 2) (oi := { dst := some 61, op := Op.fieldAddr 55 (Operand.tmp 60) 0, type := 0, pos := "law05.go:249", after := #[{ on := 1, ground := Ground.data }], guard := none }) (v := .pointer (some ⟨bf, 0, none⟩)) rfl (by kernel_rfl) (by kernel_rfl) (by kernel_rfl) (fun _ _ _ h => h) (Or.inl ⟨by kernel_rfl, fun W h => (by first | kernel_rfl | go_simp)⟩) hS ?_
          try simp only [Act.put, List.setIfInBounds_toArray, List.set_cons_zero, List.set_cons_succ]
          refine wpAnyH_take (i := 3) (oi := { dst := some 62, op := Op.load 53 (Operand.tmp 61), type := 53, pos := "law05.go:249", after := #[{ on := 2, ground := Ground.data }], guard := none }) (v := .pointer (some ⟨bc, 0, none⟩)) rfl (by kernel_rfl) (by kernel_rfl) (by kernel_rfl) (fun _ _ _ h => h) (Or.inl ⟨by kernel_rfl, fun W h => Op1.ld_ptr (.tmp 61) (by kernel_rfl) (by kernel_rfl) W (h.1)⟩) hS ?_
          try simp only [Act.put, List.setIfInBounds_toArray, List.set_cons_zero, List.set_cons_succ]
          refine wpAnyH_take (i := 4) (oi := { dst := some 63, op := Op.nilCheck (Operand.tmp 62), type := 0, pos := "law05.go:249", after := #[{ on := 3, ground := Ground.data }], guard := none }) (v := .pointer (some ⟨bc, 0, none⟩)) rfl (by kernel_rfl) (by kernel_rfl) (by kernel_rfl) (fun _ _ _ h => h) (Or.inl ⟨by kernel_rfl, fun W h => (by first | kernel_rfl | go_simp)⟩) hS ?_
          try simp only [Act.put, List.setIfInBounds_toArray, List.set_cons_zero, List.set_cons_succ]
          refine wpAnyH_take (i := 5) (oi := { dst := some 64, op := Op.fieldAddr 57 (Operand.tmp 63) 0, type := 0, pos := "law05.go:249", after := #[{ on := 4, ground := Ground.data }], guard := none }) (v := .pointer (some ⟨bc, 0, none⟩)) rfl (by kernel_rfl) (by kernel_rfl) (by kernel_rfl) (fun _ _ _ h => h) (Or.inl ⟨by kernel_rfl, fun W h => (by first | kernel_rfl | go_simp)⟩) hS ?_
          try simp only [Act.put, List.setIfInBounds_toArray, List.set_cons_zero, List.set_cons_succ]
          refine wpAnyH_take (i := 6) (oi := { dst := some 65, op := Op.load 34 (Operand.tmp 64), type := 34, pos := "law05.go:249", after := #[{ on := 5, ground := Ground.data }], guard := none }) (v := .agg es) rfl (by kernel_rfl) (by kernel_rfl) (by kernel_rfl) (fun _ _ _ h => h) (Or.inl ⟨by kernel_rfl, fun W h => run_exec_load_part 34 (.tmp 64) (by kernel_rfl) bc 0 94 (by kernel_rfl) W 57 (es ++ fs) es _ (h.2.1) img_under rfl zero_img.2 (hlf) (app_fst ze)⟩) hS ?_
          try simp only [Act.put, List.setIfInBounds_toArray, List.set_cons_zero, List.set_cons_succ]
          refine wpAnyH_take (i := 7) (oi := { dst := some 66, op := Op.load 34 (Operand.tmp 9), type := 34, pos := "law05.go:249", after := #[], guard := none }) (v := .agg cs) rfl (by kernel_rfl) (by kernel_rfl) (by kernel_rfl) (fun _ _ _ h => h) (Or.inl ⟨by kernel_rfl, fun W h => run_exec_load_part 34 (.tmp 9) (by kernel_rfl) g9 0 94 (by kernel_rfl) W 34 (cs) cs _ (h.2.2) img_under rfl zero_img.2 (by omega) (row_all zi)⟩) hS ?_
          try simp only [Act.put, List.setIfInBounds_toArray, List.set_cons_zero, List.set_cons_succ]
          refine wpAnyH_take (i := 8) (oi := { dst := some 67, op := Op.binOp BinOp.eql 34 (Operand.tmp 65) (Operand.tmp 66) 34, type := 4, pos := "law05.go:249", after := #[{ on := 6, ground := Ground.data }, { on := 7, ground := Ground.data }], guard := none }) (v := .bool true) rfl (by kernel_rfl) (by kernel_rfl) (by kernel_rfl) (fun _ _ _ h => h) (Or.inl ⟨by kernel_rfl, fun W h => run_exec_eql 34 34 (.tmp 65) (.tmp 66) (by kernel_rfl) es cs (by kernel_rfl) (by kernel_rfl) _ Tryz.eqGuardType34 (unhide QN) W⟩) hS ?_
          try simp only [Act.put, List.setIfInBounds_toArray, List.set_cons_zero, List.set_cons_succ]
          refine wpAnyH_take (i := 9) (oi := { dst := some 6, op := Op.assign (Operand.tmp 67), type := 4, pos := "law05.go:249", after := #[{ on := 8, ground := Ground.data }, { on := 0, ground := Ground.phase }, { on := 1, ground := Ground.phase }, { on := 2, ground := Ground.phase }, { on := 3, ground := Ground.phase }, { on := 4, ground := Ground.phase }, { on := 5, ground := Ground.phase }, { on := 6, ground := Ground.phase }, { on := 7, ground := Ground.phase }, { on := 8, ground := Ground.phase }], guard := none }) (v := .bool true) rfl (by kernel_rfl) (by kernel_rfl) (by kernel_rfl) (fun _ _ _ h => h) (Or.inl ⟨by kernel_rfl, fun W h => (by first | kernel_rfl | go_simp)⟩) hS ?_
          try simp only [Act.put, List.setIfInBounds_toArray, List.set_cons_zero, List.set_cons_succ]
          refine wpAnyH_done (by kernel_rfl) ?_ _
          go_wp2_with fail
          go_ret
          exact ⟨rfl, ((unhide F5).call ((Below.refl _ _).drew)).bel⟩
        case pos =>
          obtain ⟨n, q, hfr⟩ := Img.fresh (unhide HK).good hc rfl
          have hnm6 : Img.isNmB nm.toList = true := (Img.take hc).name
          have RD := hide fun (p : Nat) (hp : p < 2) => fresh_read hfr hnm6 p hp
          rw [hc] at DO
          have n8 := hfr.n8
          have k4 := hfr.k4
          have hdir := hfr.dir
          have hfi := hfr.find
          have hen := hfr.entry
          have hde := hfr.dead
          have hno := hfr.none
          have hon := hfr.one
          have OLD := hide hfr.old
          have hla : Img.slast m k last ⟨1, d, 0, 0, nm, Idl.none0, Idl.none0⟩ = last + 1 := by unfold Img.slast; rw [if_pos ⟨hc, rfl⟩]
          rw [hla] at DO KN
          clear hfr hc hnm6 hla
          dsimp only at RD hdir hfi hen
          generalize Img.sstep m k last ⟨1, d, 0, 0, nm, Idl.none0, Idl.none0⟩ = m5 at DO RD hfi hen hon OLD KN
          obtain ⟨dd, rfl⟩ := Int.eq_ofNat_of_zero_le hdir.1
          have hd3 : dd < 3 := by omega
          rw [Int.toNat_natCast] at hen
          unfold Img.entry at hen
          injection hen with en1 en2 en3
          simp only [stpA, Idl.none0] at DO
          have la0 : last + 1 = last + 1 := rfl
          generalize hla : last + 1 = la at DO KN en3 la0
          go_wp2_with fail
          refine (unhide DO).mono ?_
          rintro e W5 ⟨rfl, f5, c5⟩
          have R9' : W5.heap[g9]? = some (.cells cs 34) := by rw [c5.block g9 (Array.getElem?_eq_some_iff.1 R9).1 (fun z => z.elim (unhide NE).1.1 (unhide NE).1.2)]; exact R9
          have R10' : W5.heap[g10]? = some (.cells ds 34) := by rw [c5.block g10 (Array.getElem?_eq_some_iff.1 R10).1 (fun z => z.elim (unhide NE).2.1 (unhide NE).2.2)]; exact R10
          have F5 := hide f5
          obtain ⟨p0, l0, l1, hn5, _⟩ := f5.cells
          have FD := hide (At.find_any (ob := 0) bc m5 (dd : Int) nm W5 hn5)
          rw [hfi] at FD
          have i5 := HasAt.img hn5
          have e1 := i5.name dd q hd3 k4
          have e2 := i5.ino dd q hd3 k4
          have e3 := i5.est dd q hd3 k4
          rw [en1] at e1
          rw [en2] at e2
          rw [en3] at e3
          clear f5 c5 DO F1 R9 R10 hn5 i5 NE
          go_wp2_with fail
          refine (unhide FD).mono ?_
          rintro e wq ⟨rfl, e9⟩
          rw [e9]
          clear e9 wq FD
          have t1 : decide ((q : Int) < 0) = false := by simp
          have t2 : decide (4 ≤ (q : Int)) = false := by simp; omega
          have t3 : decide ((dd : Int) < 0) = false := by simp
          have t4 : decide (3 ≤ (dd : Int)) = false := by simp; omega
          have jd : (dd : Int) < 3 := by omega
          have jq : (q : Int) < 4 := by omega
          have s1 := hide (heap_alloc_last W5 (.cells #[.string ⟨#[]⟩, .int .i64 0, .int .i64 0] 27))
          have BE := hide (below_setRow ((Below.refl W5.heap.size W5).alloc (Nat.le_refl _) (.cells #[.string ⟨#[]⟩, .int .i64 0, .int .i64 0] 27)) (Nat.le_refl W5.heap.size) #[.string nm, .int .i64 (n : Nat), .int .i64 la])
          have RE := hide (setRow_heap (W5.alloc (.cells #[.string ⟨#[]⟩, .int .i64 0, .int .i64 0] 27)) W5.heap.size _ #[.string nm, .int .i64 (n : Nat), .int .i64 la] _ _ (heap_alloc_last W5 (.cells #[.string ⟨#[]⟩, .int .i64 0, .int .i64 0] 27)))
          go_wp2_with (have hx := unhide s1; refine wpList_store_row rfl 27 _ _ rfl W5.heap.size _ rfl rfl 27 _ hx (entZ_info nm (n : Nat) la) rfl (by kernel_rfl) ?_; clear hx s1)
          have F6 := hide ((unhide F5).call (unhide BE))
          have R9a := (unhide BE).block g9 (Array.getElem?_eq_some_iff.1 R9').1
          rw [R9'] at R9a
          have R10a := (unhide BE).block g10 (Array.getElem?_eq_some_iff.1 R10').1
          rw [R10'] at R10a
          clear F5 BE R9' R10' e1 e2 e3 p0 l0 l1 t1 t2 t3 t4
          generalize (W5.alloc (.cells #[.string ⟨#[]⟩, .int .i64 0, .int .i64 0] 27)).setRow W5.heap.size #[.string nm, .int .i64 (n : Nat), .int .i64 la] = W6 at *
          generalize W5.heap.size = g12 at *
          obtain ⟨es, fs, f⟩ := (unhide F6).it
          have hi := unhide HI
          have hjd := unhide HJ
          have ze := f.now.size
          have hie := f.now
          have zi := hi.size
          have SD := hide (show ∀ W : World, Below W6.heap.size W6 W → (fun W : World => W.cell? ⟨bf, 0, none⟩ = some (.pointer (some ⟨bc, 0, none⟩)) ∧ W.heap[bc]? = some (.cells (es ++ fs) 57) ∧ W.heap[g9]? = some (.cells cs 34) ∧ W.heap[g10]? = some (.cells ds 34) ∧ W.heap[g12]? = some (.cells #[.string nm, .int .i64 (n : Nat), .int .i64 la] 27)) W from fun W b => ⟨(f.below b).ptr, (f.below b).row, by rw [b.block _ (Array.getElem?_eq_some_iff.1 R9a).1]; exact R9a, by rw [b.block _ (Array.getElem?_eq_some_iff.1 R10a).1]; exact R10a, by rw [b.block _ (Array.getElem?_eq_some_iff.1 (unhide RE)).1]; exact unhide RE⟩)
          have D1 := hide (show ∀ W, (fun W : World => W.cell? ⟨bf, 0, none⟩ = some (.pointer (some ⟨bc, 0, none⟩)) ∧ W.heap[bc]? = some (.cells (es ++ fs) 57) ∧ W.heap[g9]? = some (.cells cs 34) ∧ W.heap[g10]? = some (.cells ds 34) ∧ W.heap[g12]? = some (.cells #[.string nm, .int .i64 (n : Nat), .int .i64 la] 27)) W → Calls Tryz.prog 38 #[.pointer (some ⟨g10, 0, none⟩), .int .i64 (n : Nat)] W fun e w' => e = .returned (.int .i64 0) ∧ w' = W from fun W h => by have := refs_any g10 k (n : Nat) W (has_of_row h.2.2.2.1 hjd); rwa [hno] at this)
          have D2 := hide (show ∀ W, (fun W : World => W.cell? ⟨bf, 0, none⟩ = some (.pointer (some ⟨bc, 0, none⟩)) ∧ W.heap[bc]? = some (.cells (es ++ fs) 57) ∧ W.heap[g9]? = some (.cells cs 34) ∧ W.heap[g10]? = some (.cells ds 34) ∧ W.heap[g12]? = some (.cells #[.string nm, .int .i64 (n : Nat), .int .i64 la] 27)) W → Calls Tryz.prog 38 #[.pointer (some ⟨bc, 0, none⟩), .int .i64 (n : Nat)] W fun e w' => e = .returned (.int .i64 1) ∧ w' = W from fun W h => by have := At.refs_any (ob := 0) bc m5 (n : Nat) W (hasAt_of h.2.1 (by simp [ze]) (app_fst ze) hie); rwa [hon] at this)
          have S6 := unhide SD _ ((Below.refl _ W6).drew)
          have u1 : decide (((n : Nat) : Int) < 0) = false := by simp
          have u2 : decide (8 ≤ ((n : Nat) : Int)) = false := by simp; omega
          have cl : ∀ W, (fun W : World => W.cell? ⟨bf, 0, none⟩ = some (.pointer (some ⟨bc, 0, none⟩)) ∧ W.heap[bc]? = some (.cells (es ++ fs) 57) ∧ W.heap[g9]? = some (.cells cs 34) ∧ W.heap[g10]? = some (.cells ds 34) ∧ W.heap[g12]? = some (.cells #[.string nm, .int .i64 (n : Nat), .int .i64 la] 27)) W → W.cell? ⟨g9, n * 5, none⟩ = some (.bool false) := fun W h => by rw [cell_of_row _ _ _ _ _ _ h.2.2.1, hi.live n n8, hde]
          have ce : ∀ W, (fun W : World => W.cell? ⟨bf, 0, none⟩ = some (.pointer (some ⟨bc, 0, none⟩)) ∧ W.heap[bc]? = some (.cells (es ++ fs) 57) ∧ W.heap[g9]? = some (.cells cs 34) ∧ W.heap[g10]? = some (.cells ds 34) ∧ W.heap[g12]? = some (.cells #[.string nm, .int .i64 (n : Nat), .int .i64 la] 27)) W → W.cell? ⟨g12, 1, none⟩ = some (.int .i64 (n : Nat)) := fun W h => by rw [cell_of_row _ _ _ _ _ _ h.2.2.2.2]; rfl
          clear f
          go_wp2_with fail
          refine wp_region_held_drew (S := fun W : World => W.cell? ⟨bf, 0, none⟩ = some (.pointer (some ⟨bc, 0, none⟩)) ∧ W.heap[bc]? = some (.cells (es ++ fs) 57) ∧ W.heap[g9]? = some (.cells cs 34) ∧ W.heap[g10]? = some (.cells ds 34) ∧ W.heap[g12]? = some (.cells #[.string nm, .int .i64 (n : Nat), .int .i64 la] 27)) (by kernel_rfl) (S6) (fun hS => ?_)
          refine wpAnyH_take (i := 0) (oi := { dst := some 103, op := Op.fieldAddr 27 (Operand.tmp 12) 1, type := 0, pos := "law05.go:256", after := #[], guard := none }) (v := .pointer (some ⟨g12, 1, none⟩)) rfl (by kernel_rfl) (by kernel_rfl) (by kernel_rfl) (fun _ _ _ h => h) (Or.inl ⟨by kernel_rfl, fun W h => (by first | kernel_rfl | go_simp)⟩) hS ?_
          try simp only [Act.put, List.setIfInBounds_toArray, List.set_cons_zero, List.set_cons_succ]
          refine wpAnyH_take (i := 1) (oi := { dst := some 104, op := Op.load 3 (Operand.tmp 103), type := 3, pos := "law05.go:256", after := #[{ on := 0, ground := Ground.data }], guard := none }) (v := .int .i64 (n : Nat)) rfl (by kernel_rfl) (by kernel_rfl) (by kernel_rfl) (fun _ _ _ h => h) (Or.inl ⟨by kernel_rfl, fun W h => Op1.ld_int (.tmp 103) (by kernel_rfl) (by kernel_rfl) W (ce W h)⟩) hS ?_
          try simp only [Act.put, List.setIfInBounds_toArray, List.set_cons_zero, List.set_cons_succ]
          refine wpAnyH_take (i := 2) (oi := { dst := some 105, op := Op.binOp BinOp.lss 3 (Operand.tmp 104) (Operand.const (Value.int IntKind.i64 0)) 3, type := 4, pos := "law05.go:256", after := #[{ on := 1, ground := Ground.data }], guard := none }) (v := .bool false) rfl (by kernel_rfl) (by kernel_rfl) (by kernel_rfl) (fun _ _ _ h => h) (Or.inl ⟨by kernel_rfl, fun W h => Op1.lss0f (.tmp 104) (by kernel_rfl) (by kernel_rfl) (by kernel_rfl) u1 W⟩) hS ?_
          try simp only [Act.put, List.setIfInBounds_toArray, List.set_cons_zero, List.set_cons_succ]
          refine wpAnyH_take (i := 3) (oi := { dst := some 106, op := Op.move (Operand.tmp 105), type := 4, pos := "law05.go:256", after := #[{ on := 2, ground := Ground.data }], guard := none }) (v := .bool false) rfl (by kernel_rfl) (by kernel_rfl) (by kernel_rfl) (fun _ _ _ h => h) (Or.inl ⟨by kernel_rfl, fun W h => (by first | kernel_rfl | go_simp)⟩) hS ?_
          try simp only [Act.put, List.setIfInBounds_toArray, List.set_cons_zero, List.set_cons_succ]
          refine wpAnyH_take (i := 4) (oi := { dst := some 107, op := Op.fieldAddr 27 (Operand.tmp 12) 1, type := 0, pos := "law05.go:256", after := #[{ on := 3, ground := Ground.guard }], guard := some (3, false) }) (v := .pointer (some ⟨g12, 1, none⟩)) rfl (by kernel_rfl) (by kernel_rfl) (by kernel_rfl) (fun _ _ _ h => h) (Or.inl ⟨by kernel_rfl, fun W h => (by first | kernel_rfl | go_simp)⟩) hS ?_
          try simp only [Act.put, List.setIfInBounds_toArray, List.set_cons_zero, List.set_cons_succ]
          refine wpAnyH_take (i := 5) (oi := { dst := some 108, op := Op.load 3 (Operand.tmp 107), type := 3, pos := "law05.go:256", after := #[{ on := 4, ground := Ground.data }, { on := 3, ground := Ground.guard }], guard := some (3, false) }) (v := .int .i64 (n : Nat)) rfl (by kernel_rfl) (by kernel_rfl) (by kernel_rfl) (fun _ _ _ h => h) (Or.inl ⟨by kernel_rfl, fun W h => Op1.ld_int (.tmp 107) (by kernel_rfl) (by kernel_rfl) W (ce W h)⟩) hS ?_
          try simp only [Act.put, List.setIfInBounds_toArray, List.set_cons_zero, List.set_cons_succ]
          refine wpAnyH_take (i := 6) (oi := { dst := some 109, op := Op.binOp BinOp.geq 3 (Operand.tmp 108) (Operand.const (Value.int IntKind.i64 8)) 3, type := 4, pos := "law05.go:256", after := #[{ on := 5, ground := Ground.data }, { on := 3, ground := Ground.guard }], guard := some (3, false) }) (v := .bool false) rfl (by kernel_rfl) (by kernel_rfl) (by kernel_rfl) (fun _ _ _ h => h) (Or.inl ⟨by kernel_rfl, fun W h => Op1.geq8f (.tmp 108) (by kernel_rfl) (by kernel_rfl) (by kernel_rfl) u2 W⟩) hS ?_
          try simp only [Act.put, List.setIfInBounds_toArray, List.set_cons_zero, List.set_cons_succ]
          refine wpAnyH_take (i := 7) (oi := { dst := some 110, op := Op.pick (Operand.tmp 106) (Operand.const (Value.bool true)) (Operand.tmp 109), type := 4, pos := "law05.go:256", after := #[{ on := 3, ground := Ground.data }, { on := 6, ground := Ground.data }], guard := none }) (v := .bool false) rfl (by kernel_rfl) (by kernel_rfl) (by kernel_rfl) (fun _ _ _ h => h) (Or.inl ⟨by kernel_rfl, fun W h => (by first | kernel_rfl | go_simp)⟩) hS ?_
          try simp only [Act.put, List.setIfInBounds_toArray, List.set_cons_zero, List.set_cons_succ]
          refine wpAnyH_take (i := 8) (oi := { dst := some 111, op := Op.move (Operand.tmp 110), type := 4, pos := "law05.go:256", after := #[{ on := 7, ground := Ground.data }, { on := 3, ground := Ground.chain }], guard := none }) (v := .bool false) rfl (by kernel_rfl) (by kernel_rfl) (by kernel_rfl) (fun _ _ _ h => h) (Or.inl ⟨by kernel_rfl, fun W h => (by first | kernel_rfl | go_simp)⟩) hS ?_
          try simp only [Act.put, List.setIfInBounds_toArray, List.set_cons_zero, List.set_cons_succ]
          refine wpAnyH_take (i := 9) (oi := { dst := some 112, op := Op.fieldAddr 27 (Operand.tmp 12) 1, type := 0, pos := "law05.go:256", after := #[{ on := 8, ground := Ground.guard }], guard := some (8, false) }) (v := .pointer (some ⟨g12, 1, none⟩)) rfl (by kernel_rfl) (by kernel_rfl) (by kernel_rfl) (fun _ _ _ h => h) (Or.inl ⟨by kernel_rfl, fun W h => (by first | kernel_rfl | go_simp)⟩) hS ?_
          try simp only [Act.put, List.setIfInBounds_toArray, List.set_cons_zero, List.set_cons_succ]
          refine wpAnyH_take (i := 10) (oi := { dst := some 113, op := Op.load 3 (Operand.tmp 112), type := 3, pos := "law05.go:256", after := #[{ on := 9, ground := Ground.data }, { on := 8, ground := Ground.guard }], guard := some (8, false) }) (v := .int .i64 (n : Nat)) rfl (by kernel_rfl) (by kernel_rfl) (by kernel_rfl) (fun _ _ _ h => h) (Or.inl ⟨by kernel_rfl, fun W h => Op1.ld_int (.tmp 112) (by kernel_rfl) (by kernel_rfl) W (ce W h)⟩) hS ?_
          try simp only [Act.put, List.setIfInBounds_toArray, List.set_cons_zero, List.set_cons_succ]
          refine wpAnyH_ready (rs := [11]) (by kernel_rfl) (by simp) ?_
          refine AllReadyH.cons (o := { dst := some 114, op := Op.call { callee := Callee.value (Operand.func 38), args := #[Operand.tmp 10, Operand.tmp 113], argTypes := #[50, 3] }, type := 3, pos := "law05.go:256", after := #[{ on := 10, ground := Ground.data }, { on := 8, ground := Ground.chain }, { on := 8, ground := Ground.guard }], guard := some (8, false) }) rfl (fun K hK => ?_) AllReadyH.nil
          rw [if_pos (by kernel_rfl)]
          go_simp
          refine (unhide D1 _ hS).mono ?_
          rintro e wq ⟨rfl, e9⟩
          rw [e9]
          clear e9 wq
          go_wp2_with fail
          refine hK.out _ _ (hS) (fun hS2 => ?_)
          clear hK K
          try simp only [Act.put, List.setIfInBounds_toArray, List.set_cons_zero, List.set_cons_succ]
          refine wpAnyH_take (i := 12) (oi := { dst := some 115, op := Op.binOp BinOp.neq 3 (Operand.tmp 114) (Operand.const (Value.int IntKind.i64 0)) 3, type := 4, pos := "law05.go:256", after := #[{ on := 11, ground := Ground.data }, { on := 8, ground := Ground.guard }], guard := some (8, false) }) (v := .bool false) rfl (by kernel_rfl) (by kernel_rfl) (by kernel_rfl) (fun _ _ _ h => h) (Or.inl ⟨by kernel_rfl, fun W h => (by first | kernel_rfl | go_simp)⟩) hS2 ?_
          try simp only [Act.put, List.setIfInBounds_toArray, List.set_cons_zero, List.set_cons_succ]
          refine wpAnyH_take (i := 13) (oi := { dst := some 116, op := Op.pick (Operand.tmp 111) (Operand.const (Value.bool true)) (Operand.tmp 115), type := 4, pos := "law05.go:256", after := #[{ on := 8, ground := Ground.data }, { on := 12, ground := Ground.data }], guard := none }) (v := .bool false) rfl (by kernel_rfl) (by kernel_rfl) (by kernel_rfl) (fun _ _ _ h => h) (Or.inl ⟨by kernel_rfl, fun W h => (by first | kernel_rfl | go_simp)⟩) hS2 ?_
          try simp only [Act.put, List.setIfInBounds_toArray, List.set_cons_zero, List.set_cons_succ]
          refine wpAnyH_take (i := 14) (oi := { dst := some 117, op := Op.move (Operand.tmp 116), type := 4, pos := "law05.go:256", after := #[{ on := 13, ground := Ground.data }, { on := 11, ground := Ground.chain }], guard := none }) (v := .bool false) rfl (by kernel_rfl) (by kernel_rfl) (by kernel_rfl) (fun _ _ _ h => h) (Or.inl ⟨by kernel_rfl, fun W h => (by first | kernel_rfl | go_simp)⟩) hS2 ?_
          try simp only [Act.put, List.setIfInBounds_toArray, List.set_cons_zero, List.set_cons_succ]
          refine wpAnyH_take (i := 15) (oi := { dst := some 118, op := Op.move (Operand.tmp 7), type := 42, pos := "law05.go:256", after := #[{ on := 14, ground := Ground.guard }], guard := some (14, false) }) (v := .pointer (some ⟨bf, 0, none⟩)) rfl (by kernel_rfl) (by kernel_rfl) (by kernel_rfl) (fun _ _ _ h => h) (Or.inl ⟨by kernel_rfl, fun W h => (by first | kernel_rfl | go_simp)⟩) hS2 ?_
          try simp only [Act.put, List.setIfInBounds_toArray, List.set_cons_zero, List.set_cons_succ]
          refine wpAnyH_take (i := 16) (oi := { dst := some 119, op := Op.nilCheck (Operand.tmp 118), type := 0, pos := "law05.go:256", after := #[{ on := 15, ground := Ground.data }, { on := 14, ground := Ground.guard }], guard := some (14, false) }) (v := .pointer (some ⟨bf, 0, none⟩)) rfl (by kernel_rfl) (by kernel_rfl) (by kernel_rfl) (fun _ _ _ h => h) (Or.inl ⟨by kernel_rfl, fun W h => (by first | kernel_rfl | go_simp)⟩) hS2 ?_
          try simp only [Act.put, List.setIfInBounds_toArray, List.set_cons_zero, List.set_cons_succ]
          refine wpAnyH_take (i := 17) (oi := { dst := some 120, op := Op.fieldAddr 55 (Operand.tmp 119) 0, type := 0, pos := "law05.go:256", after := #[{ on := 16, ground := Ground.data }, { on := 14, ground := Ground.guard }], guard := some (14, false) }) (v := .pointer (some ⟨bf, 0, none⟩)) rfl (by kernel_rfl) (by kernel_rfl) (by kernel_rfl) (fun _ _ _ h => h) (Or.inl ⟨by kernel_rfl, fun W h => (by first | kernel_rfl | go_simp)⟩) hS2 ?_
          try simp only [Act.put, List.setIfInBounds_toArray, List.set_cons_zero, List.set_cons_succ]
          refine wpAnyH_take (i := 18) (oi := { dst := some 121, op := Op.load 53 (Operand.tmp 120), type := 53, pos := "law05.go:256", after := #[{ on := 17, ground := Ground.data }, { on := 14, ground := Ground.guard }], guard := some (14, false) }) (v := .pointer (some ⟨bc, 0, none⟩)) rfl (by kernel_rfl) (by kernel_rfl) (by kernel_rfl) (fun _ _ _ h => h) (Or.inl ⟨by kernel_rfl, fun W h => Op1.ld_ptr (.tmp 120) (by kernel_rfl) (by kernel_rfl) W (h.1)⟩) hS2 ?_
          try simp only [Act.put, List.setIfInBounds_toArray, List.set_cons_zero, List.set_cons_succ]
          refine wpAnyH_take (i := 19) (oi := { dst := some 122, op := Op.nilCheck (Operand.tmp 121), type := 0, pos := "law05.go:256", after := #[{ on := 18, ground := Ground.data }, { on := 14, ground := Ground.guard }], guard := some (14, false) }) (v := .pointer (some ⟨bc, 0, none⟩)) rfl (by kernel_rfl) (by kernel_rfl) (by kernel_rfl) (fun _ _ _ h => h) (Or.inl ⟨by kernel_rfl, fun W h => (by first | kernel_rfl | go_simp)⟩) hS2 ?_
          try simp only [Act.put, List.setIfInBounds_toArray, List.set_cons_zero, List.set_cons_succ]
          refine wpAnyH_take (i := 20) (oi := { dst := some 123, op := Op.fieldAddr 57 (Operand.tmp 122) 0, type := 0, pos := "law05.go:256", after := #[{ on := 19, ground := Ground.data }, { on := 14, ground := Ground.guard }], guard := some (14, false) }) (v := .pointer (some ⟨bc, 0, none⟩)) rfl (by kernel_rfl) (by kernel_rfl) (by kernel_rfl) (fun _ _ _ h => h) (Or.inl ⟨by kernel_rfl, fun W h => (by first | kernel_rfl | go_simp)⟩) hS2 ?_
          try simp only [Act.put, List.setIfInBounds_toArray, List.set_cons_zero, List.set_cons_succ]
          refine wpAnyH_take (i := 21) (oi := { dst := some 124, op := Op.fieldAddr 27 (Operand.tmp 12) 1, type := 0, pos := "law05.go:256", after := #[{ on := 14, ground := Ground.guard }], guard := some (14, false) }) (v := .pointer (some ⟨g12, 1, none⟩)) rfl (by kernel_rfl) (by kernel_rfl) (by kernel_rfl) (fun _ _ _ h => h) (Or.inl ⟨by kernel_rfl, fun W h => (by first | kernel_rfl | go_simp)⟩) hS2 ?_
          try simp only [Act.put, List.setIfInBounds_toArray, List.set_cons_zero, List.set_cons_succ]
          refine wpAnyH_take (i := 22) (oi := { dst := some 125, op := Op.load 3 (Operand.tmp 124), type := 3, pos := "law05.go:256", after := #[{ on := 21, ground := Ground.data }, { on := 14, ground := Ground.guard }], guard := some (14, false) }) (v := .int .i64 (n : Nat)) rfl (by kernel_rfl) (by kernel_rfl) (by kernel_rfl) (fun _ _ _ h => h) (Or.inl ⟨by kernel_rfl, fun W h => Op1.ld_int (.tmp 124) (by kernel_rfl) (by kernel_rfl) W (ce W h)⟩) hS2 ?_
          try simp only [Act.put, List.setIfInBounds_toArray, List.set_cons_zero, List.set_cons_succ]
          refine wpAnyH_ready (rs := [23]) (by kernel_rfl) (by simp) ?_
          refine AllReadyH.cons (o := { dst := some 126, op := Op.call { callee := Callee.value (Operand.func 38), args := #[Operand.tmp 123, Operand.tmp 125], argTypes := #[50, 3] }, type := 3, pos := "law05.go:256", after := #[{ on := 20, ground := Ground.data }, { on := 22, ground := Ground.data }, { on := 14, ground := Ground.chain }, { on := 14, ground := Ground.guard }], guard := some (14, false) }) rfl (fun K hK => ?_) AllReadyH.nil
          rw [if_pos (by kernel_rfl)]
          go_simp
          refine (unhide D2 _ hS2).mono ?_
          rintro e wq ⟨rfl, e9⟩
          rw [e9]
          clear e9 wq
          go_wp2_with fail
          refine hK.out _ _ (hS2) (fun hS3 => ?_)
          clear hK K
          try simp only [Act.put, List.setIfInBounds_toArray, List.set_cons_zero, List.set_cons_succ]
          refine wpAnyH_take (i := 24) (oi := { dst := some 127, op := Op.binOp BinOp.neq 3 (Operand.tmp 126) (Operand.const (Value.int IntKind.i64 1)) 3, type := 4, pos := "law05.go:256", after := #[{ on := 23, ground := Ground.data }, { on := 14, ground := Ground.guard }], guard := some (14, false) }) (v := .bool false) rfl (by kernel_rfl) (by kernel_rfl) (by kernel_rfl) (fun _ _ _ h => h) (Or.inl ⟨by kernel_rfl, fun W h => (by first | kernel_rfl | go_simp)⟩) hS3 ?_
          try simp only [Act.put, List.setIfInBounds_toArray, List.set_cons_zero, List.set_cons_succ]
          refine wpAnyH_take (i := 25) (oi := { dst := some 128, op := Op.pick (Operand.tmp 117) (Operand.const (Value.bool true)) (Operand.tmp 127), type := 4, pos := "law05.go:256", after := #[{ on := 14, ground := Ground.data }, { on := 24, ground := Ground.data }], guard := none }) (v := .bool false) rfl (by kernel_rfl) (by kernel_rfl) (by kernel_rfl) (fun _ _ _ h => h) (Or.inl ⟨by kernel_rfl, fun W h => (by first | kernel_rfl | go_simp)⟩) hS3 ?_
          try simp only [Act.put, List.setIfInBounds_toArray, List.set_cons_zero, List.set_cons_succ]
          refine wpAnyH_take (i := 26) (oi := { dst := some 129, op := Op.move (Operand.tmp 128), type := 4, pos := "law05.go:256", after := #[{ on := 25, ground := Ground.data }, { on := 23, ground := Ground.chain }], guard := none }) (v := .bool false) rfl (by kernel_rfl) (by kernel_rfl) (by kernel_rfl) (fun _ _ _ h => h) (Or.inl ⟨by kernel_rfl, fun W h => (by first | kernel_rfl | go_simp)⟩) hS3 ?_
          try simp only [Act.put, List.setIfInBounds_toArray, List.set_cons_zero, List.set_cons_succ]
          refine wpAnyH_take (i := 27) (oi := { dst := some 130, op := Op.fieldAddr 27 (Operand.tmp 12) 1, type := 0, pos := "law05.go:256", after := #[{ on := 26, ground := Ground.guard }], guard := some (26, false) }) (v := .pointer (some ⟨g12, 1, none⟩)) rfl (by kernel_rfl) (by kernel_rfl) (by kernel_rfl) (fun _ _ _ h => h) (Or.inl ⟨by kernel_rfl, fun W h => (by first | kernel_rfl | go_simp)⟩) hS3 ?_
          try simp only [Act.put, List.setIfInBounds_toArray, List.set_cons_zero, List.set_cons_succ]
          refine wpAnyH_take (i := 28) (oi := { dst := some 131, op := Op.load 3 (Operand.tmp 130), type := 3, pos := "law05.go:256", after := #[{ on := 27, ground := Ground.data }, { on := 26, ground := Ground.guard }], guard := some (26, false) }) (v := .int .i64 (n : Nat)) rfl (by kernel_rfl) (by kernel_rfl) (by kernel_rfl) (fun _ _ _ h => h) (Or.inl ⟨by kernel_rfl, fun W h => Op1.ld_int (.tmp 130) (by kernel_rfl) (by kernel_rfl) W (ce W h)⟩) hS3 ?_
          try simp only [Act.put, List.setIfInBounds_toArray, List.set_cons_zero, List.set_cons_succ]
          refine wpAnyH_take (i := 29) (oi := { dst := some 132, op := Op.fieldAddr 34 (Operand.tmp 9) 0, type := 0, pos := "law05.go:256", after := #[{ on := 26, ground := Ground.guard }], guard := some (26, false) }) (v := .pointer (some ⟨g9, 0, none⟩)) rfl (by kernel_rfl) (by kernel_rfl) (by kernel_rfl) (fun _ _ _ h => h) (Or.inl ⟨by kernel_rfl, fun W h => (by first | kernel_rfl | go_simp)⟩) hS3 ?_
          try simp only [Act.put, List.setIfInBounds_toArray, List.set_cons_zero, List.set_cons_succ]
          refine wpAnyH_take (i := 30) (oi := { dst := some 133, op := Op.indexAddr 25 (Operand.tmp 132) (Operand.tmp 131), type := 0, pos := "law05.go:256", after := #[{ on := 29, ground := Ground.data }, { on := 28, ground := Ground.data }, { on := 26, ground := Ground.guard }], guard := some (26, false) }) (v := .pointer (some ⟨g9, n * 5, none⟩)) rfl (by kernel_rfl) (by kernel_rfl) (by kernel_rfl) (fun _ _ _ h => h) (Or.inl ⟨by kernel_rfl, fun W h => Op1.ix_ino (.tmp 132) (.tmp 131) (by kernel_rfl) (by kernel_rfl) (by kernel_rfl) (n8) W⟩) hS3 ?_
          try simp only [Act.put, List.setIfInBounds_toArray, List.set_cons_zero, List.set_cons_succ]
          refine wpAnyH_take (i := 31) (oi := { dst := some 134, op := Op.fieldAddr 24 (Operand.tmp 133) 0, type := 0, pos := "law05.go:256", after := #[{ on := 30, ground := Ground.data }, { on := 26, ground := Ground.guard }], guard := some (26, false) }) (v := .pointer (some ⟨g9, n * 5, none⟩)) rfl (by kernel_rfl) (by kernel_rfl) (by kernel_rfl) (fun _ _ _ h => h) (Or.inl ⟨by kernel_rfl, fun W h => (by first | kernel_rfl | go_simp)⟩) hS3 ?_
          try simp only [Act.put, List.setIfInBounds_toArray, List.set_cons_zero, List.set_cons_succ]
          refine wpAnyH_take (i := 32) (oi := { dst := some 135, op := Op.load 4 (Operand.tmp 134), type := 4, pos := "law05.go:256", after := #[{ on := 31, ground := Ground.data }, { on := 26, ground := Ground.guard }], guard := some (26, false) }) (v := .bool false) rfl (by kernel_rfl) (by kernel_rfl) (by kernel_rfl) (fun _ _ _ h => h) (Or.inl ⟨by kernel_rfl, fun W h => Op1.ld_bool (.tmp 134) (by kernel_rfl) (by kernel_rfl) W (cl W h)⟩) hS3 ?_
          try simp only [Act.put, List.setIfInBounds_toArray, List.set_cons_zero, List.set_cons_succ]
          refine wpAnyH_take (i := 33) (oi := { dst := some 136, op := Op.pick (Operand.tmp 129) (Operand.const (Value.bool true)) (Operand.tmp 135), type := 4, pos := "law05.go:256", after := #[{ on := 26, ground := Ground.data }, { on := 32, ground := Ground.data }], guard := none }) (v := .bool false) rfl (by kernel_rfl) (by kernel_rfl) (by kernel_rfl) (fun _ _ _ h => h) (Or.inl ⟨by kernel_rfl, fun W h => (by first | kernel_rfl | go_simp)⟩) hS3 ?_
          try simp only [Act.put, List.setIfInBounds_toArray, List.set_cons_zero, List.set_cons_succ]
          refine wpAnyH_done (by kernel_rfl) ?_ _
          clear hS hS2 hS3 D1 D2 S6 cl ce
          go_wp2_with fail
          go_loopw [13] (fun i wx => ∃ jj : Nat, jj ≤ 8 ∧ i = .int .i64 jj ∧ Hid (Below W6.heap.size W6 wx)) (fun i _ => 8 - (intOf i).toNat)
          case atStart => exact ⟨0, by omega, rfl, hide ((Below.refl _ W6).drew)⟩
          case round =>
            obtain ⟨jj, hjj, rfl, HX⟩ := hrel
            by_cases hl8 : jj < 8
            case pos =>
              have t8 : decide ((jj : Int) < 8) = true := by simp; omega
              have BX := hide ((unhide HX).trans ((Below.refl _ _).drew.mono (unhide HX).size))
              have SX := unhide SD _ (unhide BX)
              have cl : ∀ W, (fun W : World => W.cell? ⟨bf, 0, none⟩ = some (.pointer (some ⟨bc, 0, none⟩)) ∧ W.heap[bc]? = some (.cells (es ++ fs) 57) ∧ W.heap[g9]? = some (.cells cs 34) ∧ W.heap[g10]? = some (.cells ds 34) ∧ W.heap[g12]? = some (.cells #[.string nm, .int .i64 (n : Nat), .int .i64 la] 27)) W → W.cell? ⟨g9, jj * 5, none⟩ = some (.bool (m.live jj)) := fun W h => by rw [cell_of_row _ _ _ _ _ _ h.2.2.1, hi.live jj hl8]
              cases hlv : m.live jj <;> rw [hlv] at cl
              case false =>
                clear hlv
                go_wp2_with fail
                refine wp_region_held_drew (S := fun W : World => W.cell? ⟨bf, 0, none⟩ = some (.pointer (some ⟨bc, 0, none⟩)) ∧ W.heap[bc]? = some (.cells (es ++ fs) 57) ∧ W.heap[g9]? = some (.cells cs 34) ∧ W.heap[g10]? = some (.cells ds 34) ∧ W.heap[g12]? = some (.cells #[.string nm, .int .i64 (n : Nat), .int .i64 la] 27)) (by kernel_rfl) (SX) (fun hS => ?_)
                refine wpAnyH_take (i := 0) (oi := { dst := some 141, op := Op.move (Operand.tmp 13), type := 3, pos := "law05.go:260", after := #[], guard := none }) (v := .int .i64 (jj : Nat)) rfl (by kernel_rfl) (by kernel_rfl) (by kernel_rfl) (fun _ _ _ h => h) (Or.inl ⟨by kernel_rfl, fun W h => (by first | kernel_rfl | go_simp)⟩) hS ?_
                try simp only [Act.put, List.setIfInBounds_toArray, List.set_cons_zero, List.set_cons_succ]
                refine wpAnyH_take (i := 1) (oi := { dst := some 142, op := Op.fieldAddr 34 (Operand.tmp 9) 0, type := 0, pos := "law05.go:260", after := #[], guard := none }) (v := .pointer (some ⟨g9, 0, none⟩)) rfl (by kernel_rfl) (by kernel_rfl) (by kernel_rfl) (fun _ _ _ h => h) (Or.inl ⟨by kernel_rfl, fun W h => (by first | kernel_rfl | go_simp)⟩) hS ?_
                try simp only [Act.put, List.setIfInBounds_toArray, List.set_cons_zero, List.set_cons_succ]
                refine wpAnyH_take (i := 2) (oi := { dst := some 143, op := Op.indexAddr 25 (Operand.tmp 142) (Operand.tmp 141), type := 0, pos := "law05.go:260", after := #[{ on := 1, ground := Ground.data }, { on := 0, ground := Ground.data }], guard := none }) (v := .pointer (some ⟨g9, jj * 5, none⟩)) rfl (by kernel_rfl) (by kernel_rfl) (by kernel_rfl) (fun _ _ _ h => h) (Or.inl ⟨by kernel_rfl, fun W h => Op1.ix_ino (.tmp 142) (.tmp 141) (by kernel_rfl) (by kernel_rfl) (by kernel_rfl) (hl8) W⟩) hS ?_
                try simp only [Act.put, List.setIfInBounds_toArray, List.set_cons_zero, List.set_cons_succ]
                refine wpAnyH_take (i := 3) (oi := { dst := some 144, op := Op.fieldAddr 24 (Operand.tmp 143) 0, type := 0, pos := "law05.go:260", after := #[{ on := 2, ground := Ground.data }], guard := none }) (v := .pointer (some ⟨g9, jj * 5, none⟩)) rfl (by kernel_rfl) (by kernel_rfl) (by kernel_rfl) (fun _ _ _ h => h) (Or.inl ⟨by kernel_rfl, fun W h => (by first | kernel_rfl | go_simp)⟩) hS ?_
                try simp only [Act.put, List.setIfInBounds_toArray, List.set_cons_zero, List.set_cons_succ]
                refine wpAnyH_take (i := 4) (oi := { dst := some 145, op := Op.load 4 (Operand.tmp 144), type := 4, pos := "law05.go:260", after := #[{ on := 3, ground := Ground.data }], guard := none }) (v := .bool false) rfl (by kernel_rfl) (by kernel_rfl) (by kernel_rfl) (fun _ _ _ h => h) (Or.inl ⟨by kernel_rfl, fun W h => Op1.ld_bool (.tmp 144) (by kernel_rfl) (by kernel_rfl) W (cl W h)⟩) hS ?_
                try simp only [Act.put, List.setIfInBounds_toArray, List.set_cons_zero, List.set_cons_succ]
                refine wpAnyH_take (i := 5) (oi := { dst := some 146, op := Op.move (Operand.tmp 145), type := 4, pos := "law05.go:260", after := #[{ on := 4, ground := Ground.data }], guard := none }) (v := .bool false) rfl (by kernel_rfl) (by kernel_rfl) (by kernel_rfl) (fun _ _ _ h => h) (Or.inl ⟨by kernel_rfl, fun W h => (by first | kernel_rfl | go_simp)⟩) hS ?_
                try simp only [Act.put, List.setIfInBounds_toArray, List.set_cons_zero, List.set_cons_succ]
                refine wpAnyH_take (i := 6) (oi := { dst := some 147, op := Op.move (Operand.tmp 13), type := 3, pos := "law05.go:260", after := #[{ on := 5, ground := Ground.guard }], guard := some (5, true) }) (v := undef) rfl (by kernel_rfl) (by kernel_rfl) (by kernel_rfl) (fun _ _ _ h => h) (Or.inr ⟨by kernel_rfl, rfl⟩) hS ?_
                try simp only [Act.put, List.setIfInBounds_toArray, List.set_cons_zero, List.set_cons_succ]
                refine wpAnyH_take (i := 7) (oi := { dst := some 148, op := Op.fieldAddr 34 (Operand.tmp 9) 0, type := 0, pos := "law05.go:260", after := #[{ on := 5, ground := Ground.guard }], guard := some (5, true) }) (v := undef) rfl (by kernel_rfl) (by kernel_rfl) (by kernel_rfl) (fun _ _ _ h => h) (Or.inr ⟨by kernel_rfl, rfl⟩) hS ?_
                try simp only [Act.put, List.setIfInBounds_toArray, List.set_cons_zero, List.set_cons_succ]
                refine wpAnyH_take (i := 8) (oi := { dst := some 149, op := Op.indexAddr 25 (Operand.tmp 148) (Operand.tmp 147), type := 0, pos := "law05.go:260", after := #[{ on := 7, ground := Ground.data }, { on := 6, ground := Ground.data }, { on := 5, ground := Ground.guard }], guard := some (5, true) }) (v := undef) rfl (by kernel_rfl) (by kernel_rfl) (by kernel_rfl) (fun _ _ _ h => h) (Or.inr ⟨by kernel_rfl, rfl⟩) hS ?_
                try simp only [Act.put, List.setIfInBounds_toArray, List.set_cons_zero, List.set_cons_succ]
                refine wpAnyH_take (i := 9) (oi := { dst := some 150, op := Op.fieldAddr 24 (Operand.tmp 149) 1, type := 0, pos := "law05.go:260", after := #[{ on := 8, ground := Ground.data }, { on := 5, ground := Ground.guard }], guard := some (5, true) }) (v := undef) rfl (by kernel_rfl) (by kernel_rfl) (by kernel_rfl) (fun _ _ _ h => h) (Or.inr ⟨by kernel_rfl, rfl⟩) hS ?_
                try simp only [Act.put, List.setIfInBounds_toArray, List.set_cons_zero, List.set_cons_succ]
                refine wpAnyH_take (i := 10) (oi := { dst := some 151, op := Op.load 3 (Operand.tmp 150), type := 3, pos := "law05.go:260", after := #[{ on := 9, ground := Ground.data }, { on := 5, ground := Ground.guard }], guard := some (5, true) }) (v := undef) rfl (by kernel_rfl) (by kernel_rfl) (by kernel_rfl) (fun _ _ _ h => h) (Or.inr ⟨by kernel_rfl, rfl⟩) hS ?_
                try simp only [Act.put, List.setIfInBounds_toArray, List.set_cons_zero, List.set_cons_succ]
                refine wpAnyH_take (i := 11) (oi := { dst := some 152, op := Op.fieldAddr 27 (Operand.tmp 12) 2, type := 0, pos := "law05.go:260", after := #[{ on := 5, ground := Ground.guard }], guard := some (5, true) }) (v := undef) rfl (by kernel_rfl) (by kernel_rfl) (by kernel_rfl) (fun _ _ _ h => h) (Or.inr ⟨by kernel_rfl, rfl⟩) hS ?_
                try simp only [Act.put, List.setIfInBounds_toArray, List.set_cons_zero, List.set_cons_succ]
                refine wpAnyH_take (i := 12) (oi := { dst := some 153, op := Op.load 3 (Operand.tmp 152), type := 3, pos := "law05.go:260", after := #[{ on := 11, ground := Ground.data }, { on := 5, ground := Ground.guard }], guard := some (5, true) }) (v := undef) rfl (by kernel_rfl) (by kernel_rfl) (by kernel_rfl) (fun _ _ _ h => h) (Or.inr ⟨by kernel_rfl, rfl⟩) hS ?_
                try simp only [Act.put, List.setIfInBounds_toArray, List.set_cons_zero, List.set_cons_succ]
                refine wpAnyH_take (i := 13) (oi := { dst := some 154, op := Op.binOp BinOp.geq 3 (Operand.tmp 151) (Operand.tmp 153) 3, type := 4, pos := "law05.go:260", after := #[{ on := 10, ground := Ground.data }, { on := 12, ground := Ground.data }, { on := 5, ground := Ground.guard }], guard := some (5, true) }) (v := undef) rfl (by kernel_rfl) (by kernel_rfl) (by kernel_rfl) (fun _ _ _ h => h) (Or.inr ⟨by kernel_rfl, rfl⟩) hS ?_
                try simp only [Act.put, List.setIfInBounds_toArray, List.set_cons_zero, List.set_cons_succ]
                refine wpAnyH_take (i := 14) (oi := { dst := some 155, op := Op.move (Operand.tmp 154), type := 4, pos := "law05.go:260", after := #[{ on := 13, ground := Ground.data }, { on := 5, ground := Ground.chain }, { on := 5, ground := Ground.guard }], guard := some (5, true) }) (v := undef) rfl (by kernel_rfl) (by kernel_rfl) (by kernel_rfl) (fun _ _ _ h => h) (Or.inr ⟨by kernel_rfl, rfl⟩) hS ?_
                try simp only [Act.put, List.setIfInBounds_toArray, List.set_cons_zero, List.set_cons_succ]
                refine wpAnyH_take (i := 15) (oi := { dst := some 156, op := Op.move (Operand.tmp 7), type := 42, pos := "law05.go:260", after := #[{ on := 14, ground := Ground.guard }], guard := some (14, false) }) (v := undef) rfl (by kernel_rfl) (by kernel_rfl) (by kernel_rfl) (fun _ _ _ h => h) (Or.inr ⟨by kernel_rfl, rfl⟩) hS ?_
                try simp only [Act.put, List.setIfInBounds_toArray, List.set_cons_zero, List.set_cons_succ]
                refine wpAnyH_take (i := 16) (oi := { dst := some 157, op := Op.nilCheck (Operand.tmp 156), type := 0, pos := "law05.go:260", after := #[{ on := 15, ground := Ground.data }, { on := 14, ground := Ground.guard }], guard := some (14, false) }) (v := undef) rfl (by kernel_rfl) (by kernel_rfl) (by kernel_rfl) (fun _ _ _ h => h) (Or.inr ⟨by kernel_rfl, rfl⟩) hS ?_
                try simp only [Act.put, List.setIfInBounds_toArray, List.set_cons_zero, List.set_cons_succ]
                refine wpAnyH_take (i := 17) (oi := { dst := some 158, op := Op.fieldAddr 55 (Operand.tmp 157) 0, type := 0, pos := "law05.go:260", after := #[{ on := 16, ground := Ground.data }, { on := 14, ground := Ground.guard }], guard := some (14, false) }) (v := undef) rfl (by kernel_rfl) (by kernel_rfl) (by kernel_rfl) (fun _ _ _ h => h) (Or.inr ⟨by kernel_rfl, rfl⟩) hS ?_
                try simp only [Act.put, List.setIfInBounds_toArray, List.set_cons_zero, List.set_cons_succ]
                refine wpAnyH_take (i := 18) (oi := { dst := some 159, op := Op.load 53 (Operand.tmp 158), type := 53, pos := "law05.go:260", after := #[{ on := 17, ground := Ground.data }, { on := 14, ground := Ground.guard }], guard := some (14, false) }) (v := undef) rfl (by kernel_rfl) (by kernel_rfl) (by kernel_rfl) (fun _ _ _ h => h) (Or.inr ⟨by kernel_rfl, rfl⟩) hS ?_
                try simp only [Act.put, List.setIfInBounds_toArray, List.set_cons_zero, List.set_cons_succ]
                refine wpAnyH_take (i := 19) (oi := { dst := some 160, op := Op.move (Operand.tmp 13), type := 3, pos := "law05.go:260", after := #[{ on := 14, ground := Ground.guard }], guard := some (14, false) }) (v := undef) rfl (by kernel_rfl) (by kernel_rfl) (by kernel_rfl) (fun _ _ _ h => h) (Or.inr ⟨by kernel_rfl, rfl⟩) hS ?_
                try simp only [Act.put, List.setIfInBounds_toArray, List.set_cons_zero, List.set_cons_succ]
                refine wpAnyH_take (i := 20) (oi := { dst := some 161, op := Op.nilCheck (Operand.tmp 159), type := 0, pos := "law05.go:260", after := #[{ on := 18, ground := Ground.data }, { on := 14, ground := Ground.guard }], guard := some (14, false) }) (v := undef) rfl (by kernel_rfl) (by kernel_rfl) (by kernel_rfl) (fun _ _ _ h => h) (Or.inr ⟨by kernel_rfl, rfl⟩) hS ?_
                try simp only [Act.put, List.setIfInBounds_toArray, List.set_cons_zero, List.set_cons_succ]
                refine wpAnyH_take (i := 21) (oi := { dst := some 162, op := Op.fieldAddr 57 (Operand.tmp 161) 0, type := 0, pos := "law05.go:260", after := #[{ on := 20, ground := Ground.data }, { on := 14, ground := Ground.guard }], guard := some (14, false) }) (v := undef) rfl (by kernel_rfl) (by kernel_rfl) (by kernel_rfl) (fun _ _ _ h => h) (Or.inr ⟨by kernel_rfl, rfl⟩) hS ?_
                try simp only [Act.put, List.setIfInBounds_toArray, List.set_cons_zero, List.set_cons_succ]
                refine wpAnyH_take (i := 22) (oi := { dst := some 163, op := Op.fieldAddr 34 (Operand.tmp 162) 0, type := 0, pos := "law05.go:260", after := #[{ on := 21, ground := Ground.data }, { on := 14, ground := Ground.guard }], guard := some (14, false) }) (v := undef) rfl (by kernel_rfl) (by kernel_rfl) (by kernel_rfl) (fun _ _ _ h => h) (Or.inr ⟨by kernel_rfl, rfl⟩) hS ?_
                try simp only [Act.put, List.setIfInBounds_toArray, List.set_cons_zero, List.set_cons_succ]
                refine wpAnyH_take (i := 23) (oi := { dst := some 164, op := Op.indexAddr 25 (Operand.tmp 163) (Operand.tmp 160), type := 0, pos := "law05.go:260", after := #[{ on := 22, ground := Ground.data }, { on := 19, ground := Ground.data }, { on := 14, ground := Ground.guard }], guard := some (14, false) }) (v := undef) rfl (by kernel_rfl) (by kernel_rfl) (by kernel_rfl) (fun _ _ _ h => h) (Or.inr ⟨by kernel_rfl, rfl⟩) hS ?_
                try simp only [Act.put, List.setIfInBounds_toArray, List.set_cons_zero, List.set_cons_succ]
                refine wpAnyH_take (i := 24) (oi := { dst := some 165, op := Op.load 24 (Operand.tmp 164), type := 24, pos := "law05.go:260", after := #[{ on := 23, ground := Ground.data }, { on := 14, ground := Ground.guard }], guard := some (14, false) }) (v := undef) rfl (by kernel_rfl) (by kernel_rfl) (by kernel_rfl) (fun _ _ _ h => h) (Or.inr ⟨by kernel_rfl, rfl⟩) hS ?_
                try simp only [Act.put, List.setIfInBounds_toArray, List.set_cons_zero, List.set_cons_succ]
                refine wpAnyH_take (i := 25) (oi := { dst := some 166, op := Op.move (Operand.tmp 13), type := 3, pos := "law05.go:260", after := #[{ on := 14, ground := Ground.guard }], guard := some (14, false) }) (v := undef) rfl (by kernel_rfl) (by kernel_rfl) (by kernel_rfl) (fun _ _ _ h => h) (Or.inr ⟨by kernel_rfl, rfl⟩) hS ?_
                try simp only [Act.put, List.setIfInBounds_toArray, List.set_cons_zero, List.set_cons_succ]
                refine wpAnyH_take (i := 26) (oi := { dst := some 167, op := Op.fieldAddr 34 (Operand.tmp 9) 0, type := 0, pos := "law05.go:260", after := #[{ on := 14, ground := Ground.guard }], guard := some (14, false) }) (v := undef) rfl (by kernel_rfl) (by kernel_rfl) (by kernel_rfl) (fun _ _ _ h => h) (Or.inr ⟨by kernel_rfl, rfl⟩) hS ?_
                try simp only [Act.put, List.setIfInBounds_toArray, List.set_cons_zero, List.set_cons_succ]
                refine wpAnyH_take (i := 27) (oi := { dst := some 168, op := Op.indexAddr 25 (Operand.tmp 167) (Operand.tmp 166), type := 0, pos := "law05.go:260", after := #[{ on := 26, ground := Ground.data }, { on := 25, ground := Ground.data }, { on := 14, ground := Ground.guard }], guard := some (14, false) }) (v := undef) rfl (by kernel_rfl) (by kernel_rfl) (by kernel_rfl) (fun _ _ _ h => h) (Or.inr ⟨by kernel_rfl, rfl⟩) hS ?_
                try simp only [Act.put, List.setIfInBounds_toArray, List.set_cons_zero, List.set_cons_succ]
                refine wpAnyH_take (i := 28) (oi := { dst := some 169, op := Op.load 24 (Operand.tmp 168), type := 24, pos := "law05.go:260", after := #[{ on := 27, ground := Ground.data }, { on := 14, ground := Ground.guard }], guard := some (14, false) }) (v := undef) rfl (by kernel_rfl) (by kernel_rfl) (by kernel_rfl) (fun _ _ _ h => h) (Or.inr ⟨by kernel_rfl, rfl⟩) hS ?_
                try simp only [Act.put, List.setIfInBounds_toArray, List.set_cons_zero, List.set_cons_succ]
                refine wpAnyH_take (i := 29) (oi := { dst := some 170, op := Op.binOp BinOp.neq 24 (Operand.tmp 165) (Operand.tmp 169) 24, type := 4, pos := "law05.go:260", after := #[{ on := 24, ground := Ground.data }, { on := 28, ground := Ground.data }, { on := 14, ground := Ground.guard }], guard := some (14, false) }) (v := undef) rfl (by kernel_rfl) (by kernel_rfl) (by kernel_rfl) (fun _ _ _ h => h) (Or.inr ⟨by kernel_rfl, rfl⟩) hS ?_
                try simp only [Act.put, List.setIfInBounds_toArray, List.set_cons_zero, List.set_cons_succ]
                refine wpAnyH_take (i := 30) (oi := { dst := some 171, op := Op.pick (Operand.tmp 155) (Operand.const (Value.bool true)) (Operand.tmp 170), type := 4, pos := "law05.go:260", after := #[{ on := 14, ground := Ground.data }, { on := 29, ground := Ground.data }, { on := 5, ground := Ground.guard }], guard := some (5, true) }) (v := undef) rfl (by kernel_rfl) (by kernel_rfl) (by kernel_rfl) (fun _ _ _ h => h) (Or.inr ⟨by kernel_rfl, rfl⟩) hS ?_
                try simp only [Act.put, List.setIfInBounds_toArray, List.set_cons_zero, List.set_cons_succ]
                refine wpAnyH_take (i := 31) (oi := { dst := some 172, op := Op.pick (Operand.tmp 146) (Operand.tmp 171) (Operand.const (Value.bool false)), type := 4, pos := "law05.go:260", after := #[{ on := 5, ground := Ground.data }, { on := 30, ground := Ground.data }], guard := none }) (v := .bool false) rfl (by kernel_rfl) (by kernel_rfl) (by kernel_rfl) (fun _ _ _ h => h) (Or.inl ⟨by kernel_rfl, fun W h => (by first | kernel_rfl | go_simp)⟩) hS ?_
                try simp only [Act.put, List.setIfInBounds_toArray, List.set_cons_zero, List.set_cons_succ]
                refine wpAnyH_done (by kernel_rfl) ?_ _
                clear hS SX
                go_wp2_with fail
                go_roundw
                case rel => exact ⟨jj + 1, by omega, by go_num, BX⟩
                case measure => simp [intOf]; omega
              case true =>
                obtain ⟨o1, o2⟩ := unhide OLD jj hl8 hlv
                have cs1 : ∀ W, (fun W : World => W.cell? ⟨bf, 0, none⟩ = some (.pointer (some ⟨bc, 0, none⟩)) ∧ W.heap[bc]? = some (.cells (es ++ fs) 57) ∧ W.heap[g9]? = some (.cells cs 34) ∧ W.heap[g10]? = some (.cells ds 34) ∧ W.heap[g12]? = some (.cells #[.string nm, .int .i64 (n : Nat), .int .i64 la] 27)) W → W.cell? ⟨g9, jj * 5 + 1, none⟩ = some (.int .i64 (m.stamp jj)) := fun W h => by rw [cell_of_row _ _ _ _ _ _ h.2.2.1, hi.stamp jj hl8]
                have ce2 : ∀ W, (fun W : World => W.cell? ⟨bf, 0, none⟩ = some (.pointer (some ⟨bc, 0, none⟩)) ∧ W.heap[bc]? = some (.cells (es ++ fs) 57) ∧ W.heap[g9]? = some (.cells cs 34) ∧ W.heap[g10]? = some (.cells ds 34) ∧ W.heap[g12]? = some (.cells #[.string nm, .int .i64 (n : Nat), .int .i64 la] 27)) W → W.cell? ⟨g12, 2, none⟩ = some (.int .i64 la) := fun W h => by rw [cell_of_row _ _ _ _ _ _ h.2.2.2.2]; rfl
                have u3 : decide (la ≤ m.stamp jj) = false := by simp; omega
                have x1 : (es ++ fs).extract (jj * 5) (jj * 5 + 5) = #[.bool (m.live jj), .int .i64 (m.stamp jj), .int .i64 (m.links jj), .int .i64 (m.part jj 0), .int .i64 (m.part jj 1)] := by
                  rw [row5a hie hl8]
                  obtain ⟨i1, i2, i3, i4⟩ := Img.inode_eq o2
                  rw [i1, i2, i3, i4 0 (by omega), i4 1 (by omega)]
                have x2 := row5 hi hl8
                have y1 : jj * 5 + 5 ≤ (es ++ fs).size := by simp [ze]; omega
                have y2 : jj * 5 + 5 ≤ cs.size := by omega
                have QE := hide (show ∀ w, (binOp .neq 24 (.agg #[.bool (m.live jj), .int .i64 (m.stamp jj), .int .i64 (m.links jj), .int .i64 (m.part jj 0), .int .i64 (m.part jj 1)]) (.agg #[.bool (m.live jj), .int .i64 (m.stamp jj), .int .i64 (m.links jj), .int .i64 (m.part jj 0), .int .i64 (m.part jj 1)])).run Tryz.prog w = .ok (.bool false) w from fun w => by have := neqlInode (m.inode jj) (m.inode jj) w; rwa [show inoB (m.inode jj) (m.inode jj) = true by simp [inoB]] at this)
                generalize (#[.bool (m.live jj), .int .i64 (m.stamp jj), .int .i64 (m.links jj), .int .i64 (m.part jj 0), .int .i64 (m.part jj 1)] : Array Value) = iv at x1 x2 QE
                clear hlv o1 o2
                go_wp2_with fail
                refine wp_region_held_drew (S := fun W : World => W.cell? ⟨bf, 0, none⟩ = some (.pointer (some ⟨bc, 0, none⟩)) ∧ W.heap[bc]? = some (.cells (es ++ fs) 57) ∧ W.heap[g9]? = some (.cells cs 34) ∧ W.heap[g10]? = some (.cells ds 34) ∧ W.heap[g12]? = some (.cells #[.string nm, .int .i64 (n : Nat), .int .i64 la] 27)) (by kernel_rfl) (SX) (fun hS => ?_)
                refine wpAnyH_take (i := 0) (oi := { dst := some 141, op := Op.move (Operand.tmp 13), type := 3, pos := "law05.go:260", after := #[], guard := none }) (v := .int .i64 (jj : Nat)) rfl (by kernel_rfl) (by kernel_rfl) (by kernel_rfl) (fun _ _ _ h => h) (Or.inl ⟨by kernel_rfl, fun W h => (by first | kernel_rfl | go_simp)⟩) hS ?_
                try simp only [Act.put, List.setIfInBounds_toArray, List.set_cons_zero, List.set_cons_succ]
                refine wpAnyH_take (i := 1) (oi := { dst := some 142, op := Op.fieldAddr 34 (Operand.tmp 9) 0, type := 0, pos := "law05.go:260", after := #[], guard := none }) (v := .pointer (some ⟨g9, 0, none⟩)) rfl (by kernel_rfl) (by kernel_rfl) (by kernel_rfl) (fun _ _ _ h => h) (Or.inl ⟨by kernel_rfl, fun W h => (by first | kernel_rfl | go_simp)⟩) hS ?_
                try simp only [Act.put, List.setIfInBounds_toArray, List.set_cons_zero, List.set_cons_succ]
                refine wpAnyH_take (i := 2) (oi := { dst := some 143, op := Op.indexAddr 25 (Operand.tmp 142) (Operand.tmp 141), type := 0, pos := "law05.go:260", after := #[{ on := 1, ground := Ground.data }, { on := 0, ground := Ground.data }], guard := none }) (v := .pointer (some ⟨g9, jj * 5, none⟩)) rfl (by kernel_rfl) (by kernel_rfl) (by kernel_rfl) (fun _ _ _ h => h) (Or.inl ⟨by kernel_rfl, fun W h => Op1.ix_ino (.tmp 142) (.tmp 141) (by kernel_rfl) (by kernel_rfl) (by kernel_rfl) (hl8) W⟩) hS ?_
                try simp only [Act.put, List.setIfInBounds_toArray, List.set_cons_zero, List.set_cons_succ]
                refine wpAnyH_take (i := 3) (oi := { dst := some 144, op := Op.fieldAddr 24 (Operand.tmp 143) 0, type := 0, pos := "law05.go:260", after := #[{ on := 2, ground := Ground.data }], guard := none }) (v := .pointer (some ⟨g9, jj * 5, none⟩)) rfl (by kernel_rfl) (by kernel_rfl) (by kernel_rfl) (fun _ _ _ h => h) (Or.inl ⟨by kernel_rfl, fun W h => (by first | kernel_rfl | go_simp)⟩) hS ?_
                try simp only [Act.put, List.setIfInBounds_toArray, List.set_cons_zero, List.set_cons_succ]
                refine wpAnyH_take (i := 4) (oi := { dst := some 145, op := Op.load 4 (Operand.tmp 144), type := 4, pos := "law05.go:260", after := #[{ on := 3, ground := Ground.data }], guard := none }) (v := .bool true) rfl (by kernel_rfl) (by kernel_rfl) (by kernel_rfl) (fun _ _ _ h => h) (Or.inl ⟨by kernel_rfl, fun W h => Op1.ld_bool (.tmp 144) (by kernel_rfl) (by kernel_rfl) W (cl W h)⟩) hS ?_
                try simp only [Act.put, List.setIfInBounds_toArray, List.set_cons_zero, List.set_cons_succ]
                refine wpAnyH_take (i := 5) (oi := { dst := some 146, op := Op.move (Operand.tmp 145), type := 4, pos := "law05.go:260", after := #[{ on := 4, ground := Ground.data }], guard := none }) (v := .bool true) rfl (by kernel_rfl) (by kernel_rfl) (by kernel_rfl) (fun _ _ _ h => h) (Or.inl ⟨by kernel_rfl, fun W h => (by first | kernel_rfl | go_simp)⟩) hS ?_
                try simp only [Act.put, List.setIfInBounds_toArray, List.set_cons_zero, List.set_cons_succ]
                refine wpAnyH_take (i := 6) (oi := { dst := some 147, op := Op.move (Operand.tmp 13), type := 3, pos := "law05.go:260", after := #[{ on := 5, ground := Ground.guard }], guard := some (5, true) }) (v := .int .i64 (jj : Nat)) rfl (by kernel_rfl) (by kernel_rfl) (by kernel_rfl) (fun _ _ _ h => h) (Or.inl ⟨by kernel_rfl, fun W h => (by first | kernel_rfl | go_simp)⟩) hS ?_
                try simp only [Act.put, List.setIfInBounds_toArray, List.set_cons_zero, List.set_cons_succ]
                refine wpAnyH_take (i := 7) (oi := { dst := some 148, op := Op.fieldAddr 34 (Operand.tmp 9) 0, type := 0, pos := "law05.go:260", after := #[{ on := 5, ground := Ground.guard }], guard := some (5, true) }) (v := .pointer (some ⟨g9, 0, none⟩)) rfl (by kernel_rfl) (by kernel_rfl) (by kernel_rfl) (fun _ _ _ h => h) (Or.inl ⟨by kernel_rfl, fun W h => (by first | kernel_rfl | go_simp)⟩) hS ?_
                try simp only [Act.put, List.setIfInBounds_toArray, List.set_cons_zero, List.set_cons_succ]
                refine wpAnyH_take (i := 8) (oi := { dst := some 149, op := Op.indexAddr 25 (Operand.tmp 148) (Operand.tmp 147), type := 0, pos := "law05.go:260", after := #[{ on := 7, ground := Ground.data }, { on := 6, ground := Ground.data }, { on := 5, ground := Ground.guard }], guard := some (5, true) }) (v := .pointer (some ⟨g9, jj * 5, none⟩)) rfl (by kernel_rfl) (by kernel_rfl) (by kernel_rfl) (fun _ _ _ h => h) (Or.inl ⟨by kernel_rfl, fun W h => Op1.ix_ino (.tmp 148) (.tmp 147) (by kernel_rfl) (by kernel_rfl) (by kernel_rfl) (hl8) W⟩) hS ?_
                try simp only [Act.put, List.setIfInBounds_toArray, List.set_cons_zero, List.set_cons_succ]
                refine wpAnyH_take (i := 9) (oi := { dst := some 150, op := Op.fieldAddr 24 (Operand.tmp 149) 1, type := 0, pos := "law05.go:260", after := #[{ on := 8, ground := Ground.data }, { on := 5, ground := Ground.guard }], guard := some (5, true) }) (v := .pointer (some ⟨g9, jj * 5 + 1, none⟩)) rfl (by kernel_rfl) (by kernel_rfl) (by kernel_rfl) (fun _ _ _ h => h) (Or.inl ⟨by kernel_rfl, fun W h => (by first | kernel_rfl | go_simp)⟩) hS ?_
                try simp only [Act.put, List.setIfInBounds_toArray, List.set_cons_zero, List.set_cons_succ]
                refine wpAnyH_take (i := 10) (oi := { dst := some 151, op := Op.load 3 (Operand.tmp 150), type := 3, pos := "law05.go:260", after := #[{ on := 9, ground := Ground.data }, { on := 5, ground := Ground.guard }], guard := some (5, true) }) (v := .int .i64 (m.stamp jj)) rfl (by kernel_rfl) (by kernel_rfl) (by kernel_rfl) (fun _ _ _ h => h) (Or.inl ⟨by kernel_rfl, fun W h => Op1.ld_int (.tmp 150) (by kernel_rfl) (by kernel_rfl) W (cs1 W h)⟩) hS ?_
                try simp only [Act.put, List.setIfInBounds_toArray, List.set_cons_zero, List.set_cons_succ]
                refine wpAnyH_take (i := 11) (oi := { dst := some 152, op := Op.fieldAddr 27 (Operand.tmp 12) 2, type := 0, pos := "law05.go:260", after := #[{ on := 5, ground := Ground.guard }], guard := some (5, true) }) (v := .pointer (some ⟨g12, 2, none⟩)) rfl (by kernel_rfl) (by kernel_rfl) (by kernel_rfl) (fun _ _ _ h => h) (Or.inl ⟨by kernel_rfl, fun W h => (by first | kernel_rfl | go_simp)⟩) hS ?_
                try simp only [Act.put, List.setIfInBounds_toArray, List.set_cons_zero, List.set_cons_succ]
                refine wpAnyH_take (i := 12) (oi := { dst := some 153, op := Op.load 3 (Operand.tmp 152), type := 3, pos := "law05.go:260", after := #[{ on := 11, ground := Ground.data }, { on := 5, ground := Ground.guard }], guard := some (5, true) }) (v := .int .i64 la) rfl (by kernel_rfl) (by kernel_rfl) (by kernel_rfl) (fun _ _ _ h => h) (Or.inl ⟨by kernel_rfl, fun W h => Op1.ld_int (.tmp 152) (by kernel_rfl) (by kernel_rfl) W (ce2 W h)⟩) hS ?_
                try simp only [Act.put, List.setIfInBounds_toArray, List.set_cons_zero, List.set_cons_succ]
                refine wpAnyH_take (i := 13) (oi := { dst := some 154, op := Op.binOp BinOp.geq 3 (Operand.tmp 151) (Operand.tmp 153) 3, type := 4, pos := "law05.go:260", after := #[{ on := 10, ground := Ground.data }, { on := 12, ground := Ground.data }, { on := 5, ground := Ground.guard }], guard := some (5, true) }) (v := .bool false) rfl (by kernel_rfl) (by kernel_rfl) (by kernel_rfl) (fun _ _ _ h => h) (Or.inl ⟨by kernel_rfl, fun W h => Op1.geqf (.tmp 151) (.tmp 153) (by kernel_rfl) (by kernel_rfl) (by kernel_rfl) u3 W⟩) hS ?_
                try simp only [Act.put, List.setIfInBounds_toArray, List.set_cons_zero, List.set_cons_succ]
                refine wpAnyH_take (i := 14) (oi := { dst := some 155, op := Op.move (Operand.tmp 154), type := 4, pos := "law05.go:260", after := #[{ on := 13, ground := Ground.data }, { on := 5, ground := Ground.chain }, { on := 5, ground := Ground.guard }], guard := some (5, true) }) (v := .bool false) rfl (by kernel_rfl) (by kernel_rfl) (by kernel_rfl) (fun _ _ _ h => h) (Or.inl ⟨by kernel_rfl, fun W h => (by first | kernel_rfl | go_simp)⟩) hS ?_
                try simp only [Act.put, List.setIfInBounds_toArray, List.set_cons_zero, List.set_cons_succ]
                refine wpAnyH_take (i := 15) (oi := { dst := some 156, op := Op.move (Operand.tmp 7), type := 42, pos := "law05.go:260", after := #[{ on := 14, ground := Ground.guard }], guard := some (14, false) }) (v := .pointer (some ⟨bf, 0, none⟩)) rfl (by kernel_rfl) (by kernel_rfl) (by kernel_rfl) (fun _ _ _ h => h) (Or.inl ⟨by kernel_rfl, fun W h => (by first | kernel_rfl | go_simp)⟩) hS ?_
                try simp only [Act.put, List.setIfInBounds_toArray, List.set_cons_zero, List.set_cons_succ]
                refine wpAnyH_take (i := 16) (oi := { dst := some 157, op := Op.nilCheck (Operand.tmp 156), type := 0, pos := "law05.go:260", after := #[{ on := 15, ground := Ground.data }, { on := 14, ground := Ground.guard }], guard := some (14, false) }) (v := .pointer (some ⟨bf, 0, none⟩)) rfl (by kernel_rfl) (by kernel_rfl) (by kernel_rfl) (fun _ _ _ h => h) (Or.inl ⟨by kernel_rfl, fun W h => (by first | kernel_rfl | go_simp)⟩) hS ?_
                try simp only [Act.put, List.setIfInBounds_toArray, List.set_cons_zero, List.set_cons_succ]
                refine wpAnyH_take (i := 17) (oi := { dst := some 158, op := Op.fieldAddr 55 (Operand.tmp 157) 0, type := 0, pos := "law05.go:260", after := #[{ on := 16, ground := Ground.data }, { on := 14, ground := Ground.guard }], guard := some (14, false) }) (v := .pointer (some ⟨bf, 0, none⟩)) rfl (by kernel_rfl) (by kernel_rfl) (by kernel_rfl) (fun _ _ _ h => h) (Or.inl ⟨by kernel_rfl, fun W h => (by first | kernel_rfl | go_simp)⟩) hS ?_
                try simp only [Act.put, List.setIfInBounds_toArray, List.set_cons_zero, List.set_cons_succ]
                refine wpAnyH_take (i := 18) (oi := { dst := some 159, op := Op.load 53 (Operand.tmp 158), type := 53, pos := "law05.go:260", after := #[{ on := 17, ground := Ground.data }, { on := 14, ground := Ground.guard }], guard := some (14, false) }) (v := .pointer (some ⟨bc, 0, none⟩)) rfl (by kernel_rfl) (by kernel_rfl) (by kernel_rfl) (fun _ _ _ h => h) (Or.inl ⟨by kernel_rfl, fun W h => Op1.ld_ptr (.tmp 158) (by kernel_rfl) (by kernel_rfl) W (h.1)⟩) hS ?_
                try simp only [Act.put, List.setIfInBounds_toArray, List.set_cons_zero, List.set_cons_succ]
                refine wpAnyH_take (i := 19) (oi := { dst := some 160, op := Op.move (Operand.tmp 13), type := 3, pos := "law05.go:260", after := #[{ on := 14, ground := Ground.guard }], guard := some (14, false) }) (v := .int .i64 (jj : Nat)) rfl (by kernel_rfl) (by kernel_rfl) (by kernel_rfl) (fun _ _ _ h => h) (Or.inl ⟨by kernel_rfl, fun W h => (by first | kernel_rfl | go_simp)⟩) hS ?_
                try simp only [Act.put, List.setIfInBounds_toArray, List.set_cons_zero, List.set_cons_succ]
                refine wpAnyH_take (i := 20) (oi := { dst := some 161, op := Op.nilCheck (Operand.tmp 159), type := 0, pos := "law05.go:260", after := #[{ on := 18, ground := Ground.data }, { on := 14, ground := Ground.guard }], guard := some (14, false) }) (v := .pointer (some ⟨bc, 0, none⟩)) rfl (by kernel_rfl) (by kernel_rfl) (by kernel_rfl) (fun _ _ _ h => h) (Or.inl ⟨by kernel_rfl, fun W h => (by first | kernel_rfl | go_simp)⟩) hS ?_
                try simp only [Act.put, List.setIfInBounds_toArray, List.set_cons_zero, List.set_cons_succ]
                refine wpAnyH_take (i := 21) (oi := { dst := some 162, op := Op.fieldAddr 57 (Operand.tmp 161) 0, type := 0, pos := "law05.go:260", after := #[{ on := 20, ground := Ground.data }, { on := 14, ground := Ground.guard }], guard := some (14, false) }) (v := .pointer (some ⟨bc, 0, none⟩)) rfl (by kernel_rfl) (by kernel_rfl) (by kernel_rfl) (fun _ _ _ h => h) (Or.inl ⟨by kernel_rfl, fun W h => (by first | kernel_rfl | go_simp)⟩) hS ?_
                try simp only [Act.put, List.setIfInBounds_toArray, List.set_cons_zero, List.set_cons_succ]
                refine wpAnyH_take (i := 22) (oi := { dst := some 163, op := Op.fieldAddr 34 (Operand.tmp 162) 0, type := 0, pos := "law05.go:260", after := #[{ on := 21, ground := Ground.data }, { on := 14, ground := Ground.guard }], guard := some (14, false) }) (v := .pointer (some ⟨bc, 0, none⟩)) rfl (by kernel_rfl) (by kernel_rfl) (by kernel_rfl) (fun _ _ _ h => h) (Or.inl ⟨by kernel_rfl, fun W h => (by first | kernel_rfl | go_simp)⟩) hS ?_
                try simp only [Act.put, List.setIfInBounds_toArray, List.set_cons_zero, List.set_cons_succ]
                refine wpAnyH_take (i := 23) (oi := { dst := some 164, op := Op.indexAddr 25 (Operand.tmp 163) (Operand.tmp 160), type := 0, pos := "law05.go:260", after := #[{ on := 22, ground := Ground.data }, { on := 19, ground := Ground.data }, { on := 14, ground := Ground.guard }], guard := some (14, false) }) (v := .pointer (some ⟨bc, jj * 5, none⟩)) rfl (by kernel_rfl) (by kernel_rfl) (by kernel_rfl) (fun _ _ _ h => h) (Or.inl ⟨by kernel_rfl, fun W h => Op1.ix_ino (.tmp 163) (.tmp 160) (by kernel_rfl) (by kernel_rfl) (by kernel_rfl) (hl8) W⟩) hS ?_
                try simp only [Act.put, List.setIfInBounds_toArray, List.set_cons_zero, List.set_cons_succ]
                refine wpAnyH_take (i := 24) (oi := { dst := some 165, op := Op.load 24 (Operand.tmp 164), type := 24, pos := "law05.go:260", after := #[{ on := 23, ground := Ground.data }, { on := 14, ground := Ground.guard }], guard := some (14, false) }) (v := .agg iv) rfl (by kernel_rfl) (by kernel_rfl) (by kernel_rfl) (fun _ _ _ h => h) (Or.inl ⟨by kernel_rfl, fun W h => run_exec_load_part 24 (.tmp 164) (by kernel_rfl) bc (jj * 5) 5 (by kernel_rfl) W 57 (es ++ fs) iv _ (h.2.1) ino_under rfl ino_cells (y1) (x1)⟩) hS ?_
                try simp only [Act.put, List.setIfInBounds_toArray, List.set_cons_zero, List.set_cons_succ]
                refine wpAnyH_take (i := 25) (oi := { dst := some 166, op := Op.move (Operand.tmp 13), type := 3, pos := "law05.go:260", after := #[{ on := 14, ground := Ground.guard }], guard := some (14, false) }) (v := .int .i64 (jj : Nat)) rfl (by kernel_rfl) (by kernel_rfl) (by kernel_rfl) (fun _ _ _ h => h) (Or.inl ⟨by kernel_rfl, fun W h => (by first | kernel_rfl | go_simp)⟩) hS ?_
                try simp only [Act.put, List.setIfInBounds_toArray, List.set_cons_zero, List.set_cons_succ]
                refine wpAnyH_take (i := 26) (oi := { dst := some 167, op := Op.fieldAddr 34 (Operand.tmp 9) 0, type := 0, pos := "law05.go:260", after := #[{ on := 14, ground := Ground.guard }], guard := some (14, false) }) (v := .pointer (some ⟨g9, 0, none⟩)) rfl (by kernel_rfl) (by kernel_rfl) (by kernel_rfl) (fun _ _ _ h => h) (Or.inl ⟨by kernel_rfl, fun W h => (by first | kernel_rfl | go_simp)⟩) hS ?_
                try simp only [Act.put, List.setIfInBounds_toArray, List.set_cons_zero, List.set_cons_succ]
                refine wpAnyH_take (i := 27) (oi := { dst := some 168, op := Op.indexAddr 25 (Operand.tmp 167) (Operand.tmp 166), type := 0, pos := "law05.go:260", after := #[{ on := 26, ground := Ground.data }, { on := 25, ground := Ground.data }, { on := 14, ground := Ground.guard }], guard := some (14, false) }) (v := .pointer (some ⟨g9, jj * 5, none⟩)) rfl (by kernel_rfl) (by kernel_rfl) (by kernel_rfl) (fun _ _ _ h => h) (Or.inl ⟨by kernel_rfl, fun W h => Op1.ix_ino (.tmp 167) (.tmp 166) (by kernel_rfl) (by kernel_rfl) (by kernel_rfl) (hl8) W⟩) hS ?_
                try simp only [Act.put, List.setIfInBounds_toArray, List.set_cons_zero, List.set_cons_succ]
                refine wpAnyH_take (i := 28) (oi := { dst := some 169, op := Op.load 24 (Operand.tmp 168), type := 24, pos := "law05.go:260", after := #[{ on := 27, ground := Ground.data }, { on := 14, ground := Ground.guard }], guard := some (14, false) }) (v := .agg iv) rfl (by kernel_rfl) (by kernel_rfl) (by kernel_rfl) (fun _ _ _ h => h) (Or.inl ⟨by kernel_rfl, fun W h => run_exec_load_part 24 (.tmp 168) (by kernel_rfl) g9 (jj * 5) 5 (by kernel_rfl) W 34 (cs) iv _ (h.2.2.1) ino_under rfl ino_cells (y2) (x2)⟩) hS ?_
                try simp only [Act.put, List.setIfInBounds_toArray, List.set_cons_zero, List.set_cons_succ]
                refine wpAnyH_take (i := 29) (oi := { dst := some 170, op := Op.binOp BinOp.neq 24 (Operand.tmp 165) (Operand.tmp 169) 24, type := 4, pos := "law05.go:260", after := #[{ on := 24, ground := Ground.data }, { on := 28, ground := Ground.data }, { on := 14, ground := Ground.guard }], guard := some (14, false) }) (v := .bool false) rfl (by kernel_rfl) (by kernel_rfl) (by kernel_rfl) (fun _ _ _ h => h) (Or.inl ⟨by kernel_rfl, fun W h => run_exec_neql 24 24 (.tmp 165) (.tmp 169) (by kernel_rfl) iv iv (by kernel_rfl) (by kernel_rfl) _ Tryz.eqGuardType24 (unhide QE) W⟩) hS ?_
                try simp only [Act.put, List.setIfInBounds_toArray, List.set_cons_zero, List.set_cons_succ]
                refine wpAnyH_take (i := 30) (oi := { dst := some 171, op := Op.pick (Operand.tmp 155) (Operand.const (Value.bool true)) (Operand.tmp 170), type := 4, pos := "law05.go:260", after := #[{ on := 14, ground := Ground.data }, { on := 29, ground := Ground.data }, { on := 5, ground := Ground.guard }], guard := some (5, true) }) (v := .bool false) rfl (by kernel_rfl) (by kernel_rfl) (by kernel_rfl) (fun _ _ _ h => h) (Or.inl ⟨by kernel_rfl, fun W h => (by first | kernel_rfl | go_simp)⟩) hS ?_
                try simp only [Act.put, List.setIfInBounds_toArray, List.set_cons_zero, List.set_cons_succ]
                refine wpAnyH_take (i := 31) (oi := { dst := some 172, op := Op.pick (Operand.tmp 146) (Operand.tmp 171) (Operand.const (Value.bool false)), type := 4, pos := "law05.go:260", after := #[{ on := 5, ground := Ground.data }, { on := 30, ground := Ground.data }], guard := none }) (v := .bool false) rfl (by kernel_rfl) (by kernel_rfl) (by kernel_rfl) (fun _ _ _ h => h) (Or.inl ⟨by kernel_rfl, fun W h => (by first | kernel_rfl | go_simp)⟩) hS ?_
                try simp only [Act.put, List.setIfInBounds_toArray, List.set_cons_zero, List.set_cons_succ]
                refine wpAnyH_done (by kernel_rfl) ?_ _
                clear hS SX
                go_wp2_with fail
                go_roundw
                case rel => exact ⟨jj + 1, by omega, by go_num, BX⟩
                case measure => simp [intOf]; omega
            case neg =>
              have e8 : jj = 8 := by omega
              subst e8
              have F7 := hide ((unhide F6).call (unhide HX))
              clear HX F6 SD RE R9a R10a
              go_wp2_with fail
              go_loopw [14] (fun i wx => ∃ pp : Nat, pp ≤ 2 ∧ i = .int .i64 pp ∧ Hid (Fo w bf bc m5 k la wx)) (fun i _ => 2 - (intOf i).toNat)
              case atStart => exact ⟨0, by omega, rfl, F7⟩
              case round =>
                clear F7
                obtain ⟨pp, hpp, rfl, FX⟩ := hrel
                by_cases hl2 : pp < 2
                case pos =>
                  have t2 : decide ((pp : Int) < 2) = true := by simp; omega
                  have RR := hide ((unhide FX).read (unhide KN).good.ex.ok (dd : Int) nm (unhide HNM) (pp : Int))
                  rw [(unhide RD pp hl2).1, (unhide RD pp hl2).2] at RR
                  go_wp2_with fail
                  refine (unhide RR).mono ?_
                  rintro e W8 ⟨rfl, f8, _⟩
                  have F8 := hide f8
                  clear f8 RR FX
                  go_wp2_with fail
                  go_roundw
                  case rel => (repeat apply Exists.intro); exact ⟨⟨pp + 1, by omega, by go_num, F8⟩, rfl⟩
                  case measure => simp [intOf]; omega
                case neg =>
                  have e2 : pp = 2 := by omega
                  subst e2
                  go_wp2_with fail
                  go_ret
                  exact ⟨rfl, (unhide FX).bel⟩
end Sft
end Go.Proofs.YtmlhalhjfcfagabGreat
namespace Go.Proofs.YtmlhalhjfcfagabGreat
open Go.ChangeShapes Go.WideShapes Go.ChangeAt Go.RowKit
open Idl (open_steps Steps)
open Go.ChangeMaps (open_string shut_string)
namespace Sft
set_option maxRecDepth 100000 in
theorem softFresh_lifted (os : Os) (started : os.Started) (H : Type) (enc : TypeId × Value → H) :
    ReturnsInHanded {} Tryz.checked os 7 .any (Rows.softFreshSpec.pre6 enc Tryz.prog Tryz.f7 Rows.softFreshRow.domain false) (Rows.softFreshSpec.post enc Tryz.prog Tryz.f7 false true false false) := by
  refine returnsInHanded_of_change_sized (C := Tryz.checked) Idl.TryI.own started (by kernel_rfl) Tryz.func7
    (ChangeSpec.witness6 (enc := enc) (C := Tryz.checked) false ⟨#[], #[.slice none 0 0, .int .i64 0, .string ⟨#[]⟩], []⟩ 8 (by kernel_rfl) (by kernel_rfl) (by kernel_rfl) (by kernel_rfl)) ?_
  intro W base args ds gs before hval0 hW _ hsz0 _
  have hsz : (DataW.weightsEach Tryz.prog (Tryz.f7.params.toList ++ Rows.softFreshSpec.plain.varTypes Tryz.prog) (ds ++ gs)).all (· ≤ reachBytes) = true := hsz0
  clear hsz0
  have hval : ∀ (j : Nat) t v, Tryz.f7.params[j]? = some t → args[j]? = some v → Value.okWide Tryz.prog W .any base t v := hval0
  have hW' := hW
  obtain ⟨p, q, hA0, hV, rfl, _, _⟩ := hW
  have hA : DataW.TrodAll enc Tryz.prog W 0 (fun _ => true) true Tryz.f7.params.toList args.toList ds p := hA0
  rw [Tryz.params7] at hA hval hsz
  obtain ⟨v0, v1, v2, d0, d1, d2, p0, p1, p2, rfl, rfl, rfl, h0, h1, h2⟩ := trodAll_three hA
  obtain ⟨rfl, rfl⟩ := trodVars_none hV
  obtain ⟨a0, len, cap, rfl⟩ := okWide_slice Tryz.underlying35 (hval 0 35 v0 rfl rfl)
  have lt0 : ∀ y ∈ p0, y.block < W.heap.size := by obtain ⟨n, hn⟩ := h0; exact DataW.trod_lt n _ _ _ hn
  obtain ⟨d, rfl, rfl, rfl, wd⟩ := open_int Tryz.underlying3 (hval 1 3 v1 rfl rfl) h1
  obtain ⟨nm, rfl, rfl, rfl, hnm⟩ := open_string Tryz.underlying9 (hval 2 9 v2 rfl rfl) h2
  clear hA0 hval0
  have w0 : ∀ n ∈ d0.weights Tryz.prog 35, n ≤ reachBytes := fun n hn => by
    simpa using List.all_eq_true.1 hsz _ (DataW.weights_mem_each (j := 0) (t := 35) (d := d0) rfl rfl n hn)
  obtain ⟨L, hL⟩ := open_steps h0 w0
  refine (softFresh_any hL d nm hnm).mono fun e W' ⟨he, bel⟩ => ?_
  subst he
  exact ⟨_, rfl, _, _, _, [], _, [], hW', trodAll_mk1 (shut_bool Tryz.underlying4 _), (trodAll_cons_mk (Below.trod Idl.TryI.laidOut (by kernel_rfl) (of_decide_eq_true (by kernel_rfl)) h0 bel lt0) (trodAll_cons_mk (shut_int Tryz.underlying3 wd) (trodAll_cons_mk (shut_string Tryz.underlying9 hnm) trodAll_mk0))), rfl, bel.frame _, fun h => by cases h⟩
end Sft
theorem softFresh_holds : Rows.SoftFreshSaid :=
  OpenClaim.holds_of_wide 7 Tryz.f7 rfl rfl rfl rfl rfl rfl rfl ⟨rfl, rfl, rfl, rfl, rfl⟩ rfl rfl rfl rfl rfl (by kernel_rfl) Tryz.func7 (by kernel_rfl)
    (of_decide_eq_true (by kernel_rfl)) (by unfold Func.isWrapper; first | (rw [if_pos (by decide +kernel)]; kernel_rfl) | (rw [if_neg (by decide +kernel)]; exact ⟨rfl, rfl⟩))
    (fun os started H enc _ => Sft.softFresh_lifted os started H enc)
#print axioms softFresh_holds
end Go.Proofs.YtmlhalhjfcfagabGreat
