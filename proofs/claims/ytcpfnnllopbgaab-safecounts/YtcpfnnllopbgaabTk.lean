/-
  The walk of eiderdownlaw.SafeCounts.
-/
import Derived.Test.YtcpfnnllopbgaabTh
namespace Go.Proofs.Ytcpfnnllopbgaab
open Go.RowKit
theorem Boxes.args (w : World) (a b : Array Value) : Boxes w ((w.alloc (.cells a 34)).alloc (.cells b 34)) [(w.heap.size + 1, b), (w.heap.size, a)] := by
  have h := ((Boxes.start w).box a).box b
  have e : (w.alloc (.cells a 34)).heap.size = w.heap.size + 1 := by simp
  rw [e] at h
  exact h
theorem neq_free (w : World) : (binOp .neq 24 (.agg #[.bool false, .int .i64 0, .int .i64 0, .int .i64 (-1), .int .i64 (-1)]) (.agg #[.bool false, .int .i64 0, .int .i64 0, .int .i64 (-1), .int .i64 (-1)])).run Try.prog w = .ok (.bool false) w := by kernel_rfl
set_option maxRecDepth 100000 in
set_option maxHeartbeats 4000000 in
theorem safeCounts_out (cs ds : Array Value) (hk : Kinds cs) (hl : Kinds ds) (b : Int) (hS : kindS b = ⟨#[]⟩) (q : Int) (hN : kindN b = q) (w : World) :
    Calls Try.prog 4 #[.agg cs, .agg ds, .int .i64 b] w fun e w' => e = .returned (.bool true) ∧ Below w.heap.size w w' := by
  have hi := hk.isImg
  have hj := hl.isImg
  have z := zero_img.1
  have B0 := hide (Boxes.args w cs ds)
  go_enter Try.func4, Try.ntmps4
  go_wp2_with fail
  generalize (w.alloc (.cells cs 34)).alloc (.cells ds 34) = X0 at B0 ⊢
  generalize w.heap.size + 1 = gd at B0 ⊢
  refine (safeBegun_any _).mono ?_
  rintro e w1 ⟨rfl, hb1⟩
  have B1 := hide ((unhide B0).call hb1)
  clear B0 hb1
  have r1 := hide ((unhide B1).row (w.heap.size, cs) (by simp))
  go_wp2_with (have hx := unhide r1; refine wpList_load_row rfl 34 _ rfl w.heap.size rfl 34 cs (0, 0) _ hx img_under rfl (img_info hi.size) ?_; clear hx r1)
  refine (great_any cs _ hi _).mono ?_
  rintro e w2 ⟨⟨v, rfl⟩, hb2⟩
  have B2 := hide ((unhide B1).call hb2)
  clear B1 hb2
  cases v
  case true =>
    go_wp2_with fail
    go_ret
    exact ⟨rfl, (unhide B2).below⟩
  have r2 := hide ((unhide B2).row (gd, ds) (by simp))
  go_wp2_with (have hx := unhide r2; refine wpList_load_row_g rfl 34 _ rfl gd rfl 34 ds (0, 0) _ hx img_under rfl (img_info hj.size) ?_; clear hx r2)
  refine (great_any ds _ hj _).mono ?_
  rintro e w3 ⟨⟨v, rfl⟩, hb3⟩
  have B3 := hide ((unhide B2).call hb3)
  clear B2 hb3
  cases v
  case true =>
    go_wp2_with fail
    go_ret
    exact ⟨rfl, (unhide B3).below⟩
  go_wp2_with fail
  refine (block_any _ _).mono ?_
  rw [hS, hN]
  rintro e wz ⟨rfl, ez⟩
  rw [ez]
  clear ez wz
  go_wp2_with fail
  go_ret
  exact ⟨rfl, (unhide B3).below⟩
set_option maxRecDepth 100000 in
set_option maxHeartbeats 4000000 in
theorem safeCounts_dir (cs ds : Array Value) (hk : Kinds cs) (hl : Kinds ds) (b : Int) (hS : kindS b = ⟨#[100, 105, 114]⟩) (q : Int) (hN : kindN b = q) (w : World) :
    Calls Try.prog 4 #[.agg cs, .agg ds, .int .i64 b] w fun e w' => e = .returned (.bool true) ∧ Below w.heap.size w w' := by
  have hi := hk.isImg
  have hj := hl.isImg
  have z := zero_img.1
  have B0 := hide (Boxes.args w cs ds)
  go_enter Try.func4, Try.ntmps4
  go_wp2_with fail
  generalize (w.alloc (.cells cs 34)).alloc (.cells ds 34) = X0 at B0 ⊢
  generalize w.heap.size + 1 = gd at B0 ⊢
  refine (safeBegun_any _).mono ?_
  rintro e w1 ⟨rfl, hb1⟩
  have B1 := hide ((unhide B0).call hb1)
  clear B0 hb1
  have r1 := hide ((unhide B1).row (w.heap.size, cs) (by simp))
  go_wp2_with (have hx := unhide r1; refine wpList_load_row rfl 34 _ rfl w.heap.size rfl 34 cs (0, 0) _ hx img_under rfl (img_info hi.size) ?_; clear hx r1)
  refine (great_any cs _ hi _).mono ?_
  rintro e w2 ⟨⟨v, rfl⟩, hb2⟩
  have B2 := hide ((unhide B1).call hb2)
  clear B1 hb2
  cases v
  case true =>
    go_wp2_with fail
    go_ret
    exact ⟨rfl, (unhide B2).below⟩
  have r2 := hide ((unhide B2).row (gd, ds) (by simp))
  go_wp2_with (have hx := unhide r2; refine wpList_load_row_g rfl 34 _ rfl gd rfl 34 ds (0, 0) _ hx img_under rfl (img_info hj.size) ?_; clear hx r2)
  refine (great_any ds _ hj _).mono ?_
  rintro e w3 ⟨⟨v, rfl⟩, hb3⟩
  have B3 := hide ((unhide B2).call hb3)
  clear B2 hb3
  cases v
  case true =>
    go_wp2_with fail
    go_ret
    exact ⟨rfl, (unhide B3).below⟩
  go_wp2_with fail
  refine (block_any _ _).mono ?_
  rw [hS, hN]
  rintro e wz ⟨rfl, ez⟩
  rw [ez]
  clear ez wz
  go_wp2_with fail
  go_ret
  exact ⟨rfl, (unhide B3).below⟩
set_option maxRecDepth 100000 in
set_option maxHeartbeats 4000000 in
theorem safeCounts_data (cs ds : Array Value) (hk : Kinds cs) (hl : Kinds ds) (b : Int) (hS : kindS b = ⟨#[100, 97, 116, 97]⟩) (q : Int) (hN : kindN b = q) (w : World) :
    Calls Try.prog 4 #[.agg cs, .agg ds, .int .i64 b] w fun e w' => e = .returned (.bool true) ∧ Below w.heap.size w w' := by
  have hi := hk.isImg
  have hj := hl.isImg
  have z := zero_img.1
  have B0 := hide (Boxes.args w cs ds)
  go_enter Try.func4, Try.ntmps4
  go_wp2_with fail
  generalize (w.alloc (.cells cs 34)).alloc (.cells ds 34) = X0 at B0 ⊢
  generalize w.heap.size + 1 = gd at B0 ⊢
  refine (safeBegun_any _).mono ?_
  rintro e w1 ⟨rfl, hb1⟩
  have B1 := hide ((unhide B0).call hb1)
  clear B0 hb1
  have r1 := hide ((unhide B1).row (w.heap.size, cs) (by simp))
  go_wp2_with (have hx := unhide r1; refine wpList_load_row rfl 34 _ rfl w.heap.size rfl 34 cs (0, 0) _ hx img_under rfl (img_info hi.size) ?_; clear hx r1)
  refine (great_any cs _ hi _).mono ?_
  rintro e w2 ⟨⟨v, rfl⟩, hb2⟩
  have B2 := hide ((unhide B1).call hb2)
  clear B1 hb2
  cases v
  case true =>
    go_wp2_with fail
    go_ret
    exact ⟨rfl, (unhide B2).below⟩
  have r2 := hide ((unhide B2).row (gd, ds) (by simp))
  go_wp2_with (have hx := unhide r2; refine wpList_load_row_g rfl 34 _ rfl gd rfl 34 ds (0, 0) _ hx img_under rfl (img_info hj.size) ?_; clear hx r2)
  refine (great_any ds _ hj _).mono ?_
  rintro e w3 ⟨⟨v, rfl⟩, hb3⟩
  have B3 := hide ((unhide B2).call hb3)
  clear B2 hb3
  cases v
  case true =>
    go_wp2_with fail
    go_ret
    exact ⟨rfl, (unhide B3).below⟩
  go_wp2_with fail
  refine (block_any _ _).mono ?_
  rw [hS, hN]
  rintro e wz ⟨rfl, ez⟩
  rw [ez]
  clear ez wz
  go_wp2_with fail
  go_ret
  exact ⟨rfl, (unhide B3).below⟩
set_option maxRecDepth 100000 in
set_option maxHeartbeats 40000000 in
theorem safeCounts_ino (cs ds : Array Value) (hk : Kinds cs) (hl : Kinds ds) (b : Int) (q : Nat) (hq : q + 4 ≤ 8) (hS : kindS b = ⟨#[105, 110, 111, 100, 101, 115]⟩) (hN : kindN b = (q : Nat)) (hW : ∀ m k, Img.write m k b = Img.wInos m k q 4) (h0 : 0 ≤ b) (h14 : b < 14) (w : World) :
    Calls Try.prog 4 #[.agg cs, .agg ds, .int .i64 b] w fun e w' => e = .returned (.bool true) ∧ Below w.heap.size w w' := by
  have hi := hk.isImg
  have hj := hl.isImg
  have z := zero_img.1
  have B0 := hide (Boxes.args w cs ds)
  have hin : Img.inB b = true := by simp [Img.inB, h0, h14]
  have t0 : decide ((q : Int) < 0) = false := by simp
  have t1 : decide (8 < (q : Int) + 4) = false := by simp; omega
  go_enter Try.func4, Try.ntmps4
  go_wp2_with fail
  generalize (w.alloc (.cells cs 34)).alloc (.cells ds 34) = X0 at B0 ⊢
  generalize w.heap.size + 1 = gd at B0 ⊢
  refine (safeBegun_any _).mono ?_
  rintro e w1 ⟨rfl, hb1⟩
  have B1 := hide ((unhide B0).call hb1)
  clear B0 hb1
  have r1 := hide ((unhide B1).row (w.heap.size, cs) (by simp))
  go_wp2_with (have hx := unhide r1; refine wpList_load_row rfl 34 _ rfl w.heap.size rfl 34 cs (0, 0) _ hx img_under rfl (img_info hi.size) ?_; clear hx r1)
  refine (great_any cs _ hi _).mono ?_
  rintro e w2 ⟨⟨v, rfl⟩, hb2⟩
  have B2 := hide ((unhide B1).call hb2)
  clear B1 hb2
  cases v
  case true =>
    go_wp2_with fail
    go_ret
    exact ⟨rfl, (unhide B2).below⟩
  have r2 := hide ((unhide B2).row (gd, ds) (by simp))
  go_wp2_with (have hx := unhide r2; refine wpList_load_row_g rfl 34 _ rfl gd rfl 34 ds (0, 0) _ hx img_under rfl (img_info hj.size) ?_; clear hx r2)
  refine (great_any ds _ hj _).mono ?_
  rintro e w3 ⟨⟨v, rfl⟩, hb3⟩
  have B3 := hide ((unhide B2).call hb3)
  clear B2 hb3
  cases v
  case true =>
    go_wp2_with fail
    go_ret
    exact ⟨rfl, (unhide B3).below⟩
  go_wp2_with fail
  refine (block_any _ _).mono ?_
  rw [hS, hN]
  rintro e wz ⟨rfl, ez⟩
  rw [ez]
  clear ez wz
  go_wp2_with fail
  refine (write_any w.heap.size gd (imgOf cs) (imgOf ds) b _ ((unhide B3).has (by simp) hi) ((unhide B3).is (by simp) hj)).mono ?_
  rw [hin, hW]
  rintro e wx ⟨⟨cx, rfl, hx⟩, hbx⟩
  have Bx0 := hide ((unhide B3).call hbx)
  clear hbx B3
  have sx := hide (heap_alloc_last wx (.cells zeroCells 34))
  have Bx := hide ((unhide Bx0).new cx)
  clear Bx0
  go_wp2_with (first | (have hx9 := unhide sx; refine wpList_store_row rfl 34 _ _ rfl wx.heap.size cx rfl rfl 34 zeroCells hx9 (img_info hx.size) (zero_size hx) hx.all ?_; clear hx9 sx; generalize (wx.alloc (.cells zeroCells 34)).setRow wx.heap.size cx = Xx at Bx ⊢; generalize wx.heap.size = gx at Bx ⊢))
  go_loopw [11] (fun i wr => ∃ kk : Nat, q ≤ kk ∧ kk ≤ q + 4 ∧ i = .int .i64 kk ∧ Boxes w wr ((gx, cx) :: (gd, ds) :: (w.heap.size, cs) :: [])) (fun i _ => q + 4 - (intOf i).toNat)
  case atStart => exact ⟨q, by omega, by omega, rfl, unhide Bx⟩
  case round =>
    clear Bx
    obtain ⟨kk, hq1, hq2, rfl, hB⟩ := hrel
    have Bl := hide hB
    clear hB
    by_cases hlt : kk < q + 4
    · have hd4 : decide ((kk : Int) < (q : Int) + 4) = true := by simp; omega
      have hX := (unhide Bl).has (g := gx) (by simp) hx
      have hat := Img.wInos_at (imgOf cs) (imgOf ds) q 4 (kk - q) (by omega)
      rw [show q + (kk - q) = kk by omega] at hat
      obtain ⟨i0, i1, i2, i3, i4⟩ := Img.inode_is hat
      have f0 := hX.live kk (by omega)
      have f1 := hX.stamp kk (by omega)
      have f2 := hX.links kk (by omega)
      have f3 := hX.part kk 0 (by omega) (by omega)
      have f4 := hX.part kk 1 (by omega) (by omega)
      rw [i0] at f0
      rw [i1] at f1
      rw [i2] at f2
      rw [i3] at f3
      rw [i4] at f4
      clear hX i0 i1 i2 i3 i4 hat
      have hcount := Img.counted (imgOf cs) (imgOf ds) kk
      generalize Img.inodeAs (imgOf cs) (imgOf ds) kk = I at f0 f1 f2 f3 f4 hcount
      obtain ⟨hdead, hmore, hpart⟩ := hcount
      have Bi := hide ((unhide Bl).call ((Below.refl _ _).alloc (Nat.le_refl _) (.cells #[.bool I.live, .int .i64 I.stamp, .int .i64 I.links, .int .i64 I.p0, .int .i64 I.p1] 24)))
      have c0 : (wr.alloc (.cells #[.bool I.live, .int .i64 I.stamp, .int .i64 I.links, .int .i64 I.p0, .int .i64 I.p1] 24)).cell? ⟨wr.heap.size, 0, none⟩ = some (.bool I.live) := World.cell?_alloc_new wr #[.bool I.live, .int .i64 I.stamp, .int .i64 I.links, .int .i64 I.p0, .int .i64 I.p1] 24 0
      have c1 : (wr.alloc (.cells #[.bool I.live, .int .i64 I.stamp, .int .i64 I.links, .int .i64 I.p0, .int .i64 I.p1] 24)).cell? ⟨wr.heap.size, 1, none⟩ = some (.int .i64 I.stamp) := World.cell?_alloc_new wr #[.bool I.live, .int .i64 I.stamp, .int .i64 I.links, .int .i64 I.p0, .int .i64 I.p1] 24 1
      have c2 : (wr.alloc (.cells #[.bool I.live, .int .i64 I.stamp, .int .i64 I.links, .int .i64 I.p0, .int .i64 I.p1] 24)).cell? ⟨wr.heap.size, 2, none⟩ = some (.int .i64 I.links) := World.cell?_alloc_new wr #[.bool I.live, .int .i64 I.stamp, .int .i64 I.links, .int .i64 I.p0, .int .i64 I.p1] 24 2
      have c3 : (wr.alloc (.cells #[.bool I.live, .int .i64 I.stamp, .int .i64 I.links, .int .i64 I.p0, .int .i64 I.p1] 24)).cell? ⟨wr.heap.size, 3, none⟩ = some (.int .i64 I.p0) := World.cell?_alloc_new wr #[.bool I.live, .int .i64 I.stamp, .int .i64 I.links, .int .i64 I.p0, .int .i64 I.p1] 24 3
      have c4 : (wr.alloc (.cells #[.bool I.live, .int .i64 I.stamp, .int .i64 I.links, .int .i64 I.p0, .int .i64 I.p1] 24)).cell? ⟨wr.heap.size, 4, none⟩ = some (.int .i64 I.p1) := World.cell?_alloc_new wr #[.bool I.live, .int .i64 I.stamp, .int .i64 I.links, .int .i64 I.p0, .int .i64 I.p1] 24 4
      have gl : wr.heap.size < (wr.alloc (.cells #[.bool I.live, .int .i64 I.stamp, .int .i64 I.links, .int .i64 I.p0, .int .i64 I.p1] 24)).heap.size := by simp
      cases hIl : I.live
      · obtain ⟨rfl, hnl⟩ := hdead hIl
        clear hdead hmore hpart hIl
        have fl := ((unhide Bi).has (g := w.heap.size) (by simp) hi).live kk (by omega)
        rw [hnl] at fl
        have gn := (unhide Bi).hi (p := (w.heap.size, cs)) (by simp)
        have qf := neq_free
        dsimp only [Ino.none] at f0 f1 f2 f3 f4 c0 c1 c2 c3 c4 Bi fl gl gn
        go_wp2_with fail
        generalize wr.alloc (.cells #[.bool false, .int .i64 0, .int .i64 0, .int .i64 (-1), .int .i64 (-1)] 24) = W4 at Bi c0 c1 c2 c3 c4 fl gl gn ⊢
        generalize wr.heap.size = gi at c0 c1 c2 c3 c4 gl ⊢
        go_region_with (go_at_call 11; refine (none_any _).mono ?_; rintro e w' ⟨rfl, hb⟩; have fl2 := ((((unhide Bi).call (Below.refl _ _).drew).call hb).has (g := w.heap.size) (by simp) hi).live kk (by omega); rw [hnl] at fl2; obtain ⟨hc, hf⟩ := bcell hb; have d0 := (hc gi 0 (by simpa using gl)).trans c0; have d1 := (hc gi 1 (by simpa using gl)).trans c1; have d2 := (hc gi 2 (by simpa using gl)).trans c2; have d3 := (hc gi 3 (by simpa using gl)).trans c3; have d4 := (hc gi 4 (by simpa using gl)).trans c4; clear hc hf)
        all_goals go_wp2_with fail
        all_goals
          go_roundw
          case rel => exact ⟨kk + 1, by omega, by omega, by go_num, ((unhide Bi).call (Below.refl _ _).drew).call hb⟩
          case measure => simp [intOf]; omega
      · clear hdead
        obtain ⟨m1, m2⟩ := hmore hIl
        have hpt := hide (hpart hIl)
        clear hmore hpart
        rw [hIl] at f0 c0 Bi gl
        have l1 : decide (I.links < (((imgOf ds).refs kk : Nat) : Int)) = false := by simp; omega
        have l2 : decide (I.links < (((imgOf cs).refs kk : Nat) : Int)) = false := by simp; omega
        go_wp2_with fail
        rw [hIl] at c1 c2 c3 c4
        generalize wr.alloc (.cells #[.bool true, .int .i64 I.stamp, .int .i64 I.links, .int .i64 I.p0, .int .i64 I.p1] 24) = W4 at Bi c0 c1 c2 c3 c4 gl ⊢
        generalize wr.heap.size = gi at c0 c1 c2 c3 c4 gl ⊢
        have R1 := hide (fun x : Nat => Calls.quiet_of_same (refs_any gd (imgOf ds) (kk : Int) _ (((unhide Bi).draw x).has (g := gd) (by simp) hj)))
        have R2 := hide (fun x : Nat => Calls.quiet_of_same (refs_any w.heap.size (imgOf cs) (kk : Int) _ (((unhide Bi).draw x).has (g := w.heap.size) (by simp) hi)))
        go_quiet ((go_at_call 9; first | with_reducible exact unhide R1 _ | with_reducible exact unhide R2 _))
        go_wp2_with fail
        have B5 := hide ((unhide Bi).draw nq)
        have c1' : (W4.drewN nq).cell? ⟨gi, 1, none⟩ = some (.int .i64 I.stamp) := c1
        have cp : ∀ p : Nat, p < 2 → (W4.drewN nq).cell? ⟨gi, 3 + p, none⟩ = some (.int .i64 (if p = 0 then I.p0 else I.p1)) := fun p hp => by
          match p, hp with
          | 0, _ => exact c3
          | 1, _ => exact c4
        clear R1 R2 c0 c1 c2 c3 c4 gl Bi Bl f0 f1 f2 f3 f4 l1 l2
        generalize W4.drewN nq = W5 at B5 c1' cp ⊢
        clear W4
        go_loopw [13] (fun i wr2 => ∃ p nq : Nat, p ≤ 2 ∧ i = .int .i64 p ∧ wr2 = W5.drewN nq) (fun i _ => 2 - (intOf i).toNat)
        case atStart => exact ⟨0, 0, by omega, rfl, rfl⟩
        case round =>
          obtain ⟨p, nq, hp, rfl, rfl⟩ := hrel
          by_cases hlp : p < 2
          · have cpp := cp p hlp
            have hw3 := unhide hpt p hlp
            clear cp hpt
            generalize (if p = 0 then I.p0 else I.p1) = y at cpp hw3
            have hD := (unhide B5).has (g := gd) (by simp) hj
            have dl := hD.live kk (by omega)
            have dst := hD.stamp kk (by omega)
            have dp := hD.part kk p (by omega) hlp
            cases hy : y == -1
            · rcases hw3 with hw | ⟨w1, w2, w3⟩ | ⟨w1, w2⟩
              · rw [hw] at hy; simp at hy
              · clear hD
                have hyn : (y != -1) = true := by simpa using hy
                have hst : ((imgOf ds).stamp kk == I.stamp) = true := by simpa using w2
                have hpp : ((imgOf ds).part kk p == y) = true := by simpa using w3
                rw [w1] at dl
                clear w1 w2 w3
                go_wp2_with fail
                go_quiet (fail)
                go_wp2_with fail
                go_quiet (fail)
                go_wp2_with fail
                go_roundw
                case rel => exact ⟨p + 1, _, by omega, by go_num, by first | rfl | exact drewNs | exact drewN3⟩
                case measure => simp [intOf]; omega
              · have hb : 0 ≤ y ∧ y < 9 := by simpa [Img.isD] using w1
                obtain ⟨zz, rfl⟩ := Int.eq_ofNat_of_zero_le hb.1
                have hz9 : zz < 9 := by omega
                rw [Int.toNat_natCast] at w2
                have dof := hD.of zz hz9
                rw [w2] at dof
                clear hD hb w1 w2
                have hyn : ((zz : Int) != -1) = true := by simp
                have u0 : decide ((zz : Int) < 0) = false := by simp
                have u9 : decide (9 ≤ (zz : Int)) = false := by simp; omega
                cases hl : (imgOf ds).live kk
                · rw [hl] at dl
                  go_wp2_with fail
                  go_quiet (fail)
                  go_wp2_with fail
                  go_quiet (fail)
                  go_wp2_with fail
                  go_roundw
                  case rel => exact ⟨p + 1, _, by omega, by go_num, by first | rfl | exact drewNs | exact drewN3⟩
                  case measure => simp [intOf]; omega
                · rw [hl] at dl
                  cases hst : (imgOf ds).stamp kk == I.stamp
                  · skip
                    go_wp2_with fail
                    go_quiet (fail)
                    go_wp2_with fail
                    go_quiet (fail)
                    go_wp2_with fail
                    go_roundw
                    case rel => exact ⟨p + 1, _, by omega, by go_num, by first | rfl | exact drewNs | exact drewN3⟩
                    case measure => simp [intOf]; omega
                  · cases hpp : (imgOf ds).part kk p == (zz : Int)
                    · skip
                      go_wp2_with fail
                      go_quiet (fail)
                      go_wp2_with fail
                      go_quiet (fail)
                      go_wp2_with fail
                      go_roundw
                      case rel => exact ⟨p + 1, _, by omega, by go_num, by first | rfl | exact drewNs | exact drewN3⟩
                      case measure => simp [intOf]; omega
                    · skip
                      go_wp2_with fail
                      go_quiet (fail)
                      go_wp2_with fail
                      go_quiet (fail)
                      go_wp2_with fail
                      go_roundw
                      case rel => exact ⟨p + 1, _, by omega, by go_num, by first | rfl | exact drewNs | exact drewN3⟩
                      case measure => simp [intOf]; omega
            · clear hw3 hD
              obtain rfl : y = -1 := by simpa using hy
              cases hl : (imgOf ds).live kk
              · rw [hl] at dl
                go_wp2_with fail
                go_quiet (fail)
                go_wp2_with fail
                go_quiet (fail)
                go_wp2_with fail
                go_roundw
                case rel => exact ⟨p + 1, _, by omega, by go_num, by first | rfl | exact drewNs | exact drewN3⟩
                case measure => simp [intOf]; omega
              · rw [hl] at dl
                cases hst : (imgOf ds).stamp kk == I.stamp
                · skip
                  go_wp2_with fail
                  go_quiet (fail)
                  go_wp2_with fail
                  go_quiet (fail)
                  go_wp2_with fail
                  go_roundw
                  case rel => exact ⟨p + 1, _, by omega, by go_num, by first | rfl | exact drewNs | exact drewN3⟩
                  case measure => simp [intOf]; omega
                · cases hpp : (imgOf ds).part kk p == -1
                  · skip
                    go_wp2_with fail
                    go_quiet (fail)
                    go_wp2_with fail
                    go_quiet (fail)
                    go_wp2_with fail
                    go_roundw
                    case rel => exact ⟨p + 1, _, by omega, by go_num, by first | rfl | exact drewNs | exact drewN3⟩
                    case measure => simp [intOf]; omega
                  · skip
                    go_wp2_with fail
                    go_quiet (fail)
                    go_wp2_with fail
                    go_quiet (fail)
                    go_wp2_with fail
                    go_roundw
                    case rel => exact ⟨p + 1, _, by omega, by go_num, by first | rfl | exact drewNs | exact drewN3⟩
                    case measure => simp [intOf]; omega
          · have e : p = 2 := by omega
            subst e
            go_wp2_with fail
            go_roundw
            case rel => exact ⟨kk + 1, by omega, by omega, by go_num, (unhide B5).draw _⟩
            case measure => simp [intOf]; omega
    · have e : kk = q + 4 := by omega
      subst e
      have hd4 : decide (((q + 4 : Nat) : Int) < (q : Int) + 4) = false := by simp
      go_wp2_with fail
      go_ret
      exact ⟨rfl, (unhide Bl).below⟩
theorem safeCounts_any (cs ds : Array Value) (hk : Kinds cs) (hl : Kinds ds) (b : Int) (w : World) :
    Calls Try.prog 4 #[.agg cs, .agg ds, .int .i64 b] w fun e w' => e = .returned (.bool true) ∧ Below w.heap.size w w' := by
  rcases Img.blocks b with h | ⟨q, hq, rfl⟩ | ⟨d, hd, rfl⟩ | ⟨x, hx, rfl⟩
  · exact safeCounts_out cs ds hk hl b (kind_out h).1 _ (kind_out h).2 w
  · exact safeCounts_ino cs ds hk hl _ (q * 4) (by omega) (kind_ino hq).1 (by rw [(kind_ino hq).2]; omega) (fun _ _ => Img.write_ino hq) (by omega) (by omega) w
  · exact safeCounts_dir cs ds hk hl _ (kind_dir hd).1 _ (kind_dir hd).2 w
  · exact safeCounts_data cs ds hk hl _ (kind_data hx).1 _ (kind_data hx).2 w
end Go.Proofs.Ytcpfnnllopbgaab
