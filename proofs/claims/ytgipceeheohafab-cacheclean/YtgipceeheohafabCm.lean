/-
  The walk of eiderdownlaw.CacheClean.
-/
import Derived.Test.YtgipceeheohafabCk
namespace Go.Proofs.Ytgipceeheohafab
open Go.RowKit
theorem Bx.args2 (w : World) (a b : Array Value) : Bx w ((w.alloc (.cells a 34)).alloc (.cells b 34)) [(w.heap.size + 1, b, 34), (w.heap.size, a, 34)] := by
  have h := ((Bx.start w).box a 34).box b 34
  have e : (w.alloc (.cells a 34)).heap.size = w.heap.size + 1 := by simp
  rw [e] at h
  exact h
set_option maxRecDepth 100000 in
set_option maxHeartbeats 4000000 in
theorem cacheClean_any (ds cs : Array Value) (hl : Kinds ds) (hk : Kinds cs) (b : Int) (w : World) :
    Calls Try.prog 6 #[.agg ds, .agg cs, .int .i64 b] w fun e w' => e = .returned (.bool true) ∧ Below w.heap.size w w' := by
  have hi := hk.isImg
  have hj := hl.isImg
  have z1 := hi.size
  have z2 := hj.size
  have B0 := hide (Bx.args2 w ds cs)
  go_enter Try.func6, Try.ntmps6
  go_wp2_with fail
  generalize (w.alloc (.cells ds 34)).alloc (.cells cs 34) = X0 at B0 ⊢
  generalize w.heap.size + 1 = gn at B0 ⊢
  refine (cacheBegun_any _).mono ?_
  rintro e w1 ⟨rfl, hb1⟩
  have B1 := hide ((unhide B0).call hb1)
  clear B0 hb1
  have r1 := hide ((unhide B1).row (gn, cs, 34) (by simp))
  go_wp2_with (have hx := unhide r1; refine wpList_load_row rfl 34 _ rfl gn rfl 34 cs (0, 0) _ hx img_under rfl (img_info hi.size) ?_; clear hx r1)
  refine (great_any cs _ hi _).mono ?_
  rintro e w2 ⟨⟨v, rfl⟩, hb2⟩
  have B2 := hide ((unhide B1).call hb2)
  clear B1 hb2
  cases v
  case true =>
    go_wp2_with fail
    go_ret
    exact ⟨rfl, (unhide B2).below⟩
  have r2 := hide ((unhide B2).row (w.heap.size, ds, 34) (by simp))
  go_wp2_with (have hx := unhide r2; refine wpList_load_row_g rfl 34 _ rfl w.heap.size rfl 34 ds (0, 0) _ hx img_under rfl (img_info hj.size) ?_; clear hx r2)
  refine (great_any ds _ hj _).mono ?_
  rintro e w3 ⟨⟨v, rfl⟩, hb3⟩
  have B3 := hide ((unhide B2).call hb3)
  clear B2 hb3
  cases v
  case true =>
    go_wp2_with fail
    go_ret
    exact ⟨rfl, (unhide B3).below⟩
  have r3 := hide ((unhide B3).row (w.heap.size, ds, 34) (by simp))
  go_wp2_with (have hx := unhide r3; refine wpList_load_row rfl 34 _ rfl w.heap.size rfl 34 ds (0, 0) _ hx img_under rfl (img_info hj.size) ?_; clear hx r3)
  refine (of_any ds _ hj _).mono ?_
  rintro e w4 ⟨ho, hb4⟩
  rcases ho with ⟨hck, gc, rfl, hgc, hrc⟩ | ⟨hck, rfl⟩
  case inr =>
    have B4 := hide ((unhide B3).call hb4)
    clear B3 hb4
    go_wp2_with fail
    refine (fault_any w.heap.size _ _ ((unhide B4).has (by simp) hj)).mono ?_
    rintro e w5 ⟨⟨c, rfl, hc⟩, hb5⟩
    have B5 := hide ((unhide B4).call hb5)
    clear B4 hb5
    have c0 : (c != 0) = true := by
      have : c ≠ 0 := fun z => hck (hc.1 z)
      simpa using this
    clear hc hck
    go_wp2_with fail
    go_ret
    exact ⟨rfl, (unhide B5).below⟩
  clear hck
  have B4 := hide ((unhide B3).add hb4 hgc hrc)
  clear B3 hb4 hgc hrc
  have hgl := (unhide B4).hi (p := (gc, ds ++ ds, 51)) (by simp)
  have r4 := hide ((unhide B4).row (gn, cs, 34) (by simp))
  have r5 := hide ((unhide B4).row (gc, ds ++ ds, 51) (by simp))
  have B5 := hide ((unhide B4).mut0 (Mut.of (Below.refl _ w4) hgl (c' := cs ++ ds) rfl ((unhide B4).row (gc, ds ++ ds, 51) (by simp))))
  have hsp : splice (ds ++ ds) 0 cs = cs ++ ds := splice_fst z2 z1
  have hle : 0 + cs.size ≤ (ds ++ ds).size := by simp; omega
  clear B4
  go_wp2_with (first | (have hx := unhide r4; refine wpList_load_row rfl 34 _ rfl gn rfl 34 cs (0, 0) _ hx img_under rfl (img_info hi.size) ?_; clear hx r4) | (have hx := unhide r5; refine wpList_store_part rfl 34 _ _ rfl gc 0 cs rfl rfl 51 (ds ++ ds) hx (img_info hi.size) hle hi.all ?_; clear hx r5; rw [hsp]; generalize w4.setRow gc (cs ++ ds) = X5 at B5 ⊢))
  go_loopw [8, 9] (fun a i wr => ∃ n : Nat, n ≤ 14 ∧ i = .int .i64 n ∧ a = .bool (Img.anyB (fun x => Img.dirty (imgOf cs) (imgOf ds) (x : Int)) n) ∧ Hid (Bx w wr ((gc, cs ++ ds, 51) :: (gn, cs, 34) :: (w.heap.size, ds, 34) :: []))) (fun _ i _ => 14 - (intOf i).toNat)
  case atStart => exact ⟨0, by omega, rfl, rfl, B5⟩
  case round =>
    clear B5
    obtain ⟨n, hn, rfl, rfl, B5⟩ := hrel
    by_cases hlt : n < 14
    · have u14 : decide ((n : Int) < 14) = true := by simp; omega
      have ES := hide (show Img.anyB (fun x => Img.dirty (imgOf cs) (imgOf ds) (x : Int)) (n + 1) = (Img.anyB (fun x => Img.dirty (imgOf cs) (imgOf ds) (x : Int)) n || Img.dirty (imgOf cs) (imgOf ds) (n : Int)) from rfl)
      cases ha : Img.anyB (fun x => Img.dirty (imgOf cs) (imgOf ds) (x : Int)) n
      · go_wp2_with fail
        refine (cDirty_any gc cs ds (imgOf cs) (imgOf ds) hi hj (n : Int) _ ((unhide B5).row (gc, cs ++ ds, 51) (by simp))).mono ?_
        rintro e w6 ⟨rfl, hb6⟩
        have B6 := hide ((unhide B5).call hb6)
        clear B5 hb6
        go_wp2_with fail
        go_roundw
        case rel => exact ⟨n + 1, by omega, by go_num, by rw [unhide ES, ha]; rfl, B6⟩
        case measure => simp [intOf]; omega
      · go_wp2_with fail
        go_roundw
        case rel => exact ⟨n + 1, by omega, by go_num, by rw [unhide ES, ha]; rfl, B5⟩
        case measure => simp [intOf]; omega
    · have u14 : decide ((n : Int) < 14) = false := by simp; omega
      have en : n = 14 := by omega
      subst en
      rw [Img.dirty_any]
      go_wp2_with fail
      refine (clean_any gc cs ds (imgOf cs) (imgOf ds) hi hj _ ((unhide B5).row (gc, cs ++ ds, 51) (by simp))).mono ?_
      rintro e w6 ⟨rfl, hb6⟩
      have B6 := hide ((unhide B5).call hb6)
      clear B5 hb6
      cases hsm : Img.sameImg (imgOf cs) (imgOf ds)
      all_goals
        clear hsm
        go_wp2_with fail
        refine (blockOf_any _ _).mono ?_
        rintro e wz ⟨rfl, ez⟩
        rw [ez]
        clear ez wz
        go_wp2_with fail
        refine (cWrite_any gc cs ds (imgOf cs) (imgOf ds) hi hj b _ ((unhide B6).row (gc, cs ++ ds, 51) (by simp))).mono ?_
        rintro e w7 ⟨es, rfl, hes, hM⟩
        have B9 := hide ((unhide B6).mut0 hM)
        clear B6 hM
        rcases Img.blocks b with h | ⟨q, hq, rfl⟩ | ⟨d, hd, rfl⟩ | ⟨x, hx, rfl⟩
        · have KS := hide (kind_out h).1
          have IB := hide h
          rw [unhide KS, unhide IB]
          clear KS IB
          obtain ⟨nn, hnn⟩ : ∃ nn : Int, nn = ((Img.syn (imgOf cs) 8 (Img.write (imgOf cs) (imgOf ds) b)).1 : Nat) := ⟨_, rfl⟩
          have HS := hide (show nn = 8 ∨ Img.sameImg (imgOf cs) (Img.syn (imgOf cs) 8 (Img.write (imgOf cs) (imgOf ds) b)).2 = true by
            rcases Img.syn_clean (imgOf cs) 8 (Img.write (imgOf cs) (imgOf ds) b) with z | z
            · left; rw [hnn, z]; rfl
            · exact .inr z)
          have hle8 := Img.syn_le (imgOf cs) 8 (Img.write (imgOf cs) (imgOf ds) b)
          have v0 : decide (0 ≤ nn) = true := by rw [hnn]; simp
          have v0' : decide (nn ≥ 0) = true := by rw [hnn]; simp
          have v8 : decide (nn ≤ 8) = true := by simp; omega
          have HNN := hide hnn
          clear hnn hle8
          go_wp2_with fail
          refine (cSync_any gc cs es (imgOf cs) (Img.write (imgOf cs) (imgOf ds) b) hi hes _ ((unhide B9).row (gc, cs ++ es, 51) (by simp))).mono ?_
          rw [← unhide HNN]
          rintro e w10 ⟨fs, rfl, hfs, hM⟩
          have B10 := hide ((unhide B9).mut0 hM)
          clear B9 hM
          by_cases h8 : nn = 8
          · have x8 : (nn == 8) = true := by simpa using h8
            subst h8
            go_wp2_with fail
            go_ret
            exact ⟨rfl, (unhide B10).below⟩
          · have x8 : (nn == 8) = false := by simpa using h8
            have hcl : Img.sameImg (imgOf cs) (Img.syn (imgOf cs) 8 (Img.write (imgOf cs) (imgOf ds) b)).2 = true := by
              rcases unhide HS with z | z
              · exact absurd z h8
              · exact z
            go_wp2_with fail
            refine (clean_any gc cs fs (imgOf cs) _ hi hfs _ ((unhide B10).row (gc, cs ++ fs, 51) (by simp))).mono ?_
            rw [hcl]
            rintro e w11 ⟨rfl, hb11⟩
            have B11 := hide ((unhide B10).call hb11)
            clear B10 hb11
            go_wp2_with fail
            go_ret
            exact ⟨rfl, (unhide B11).below⟩
        · have KS := hide (kind_ino hq).1
          have IB := hide (show Img.inB (q : Int) = true by simp [Img.inB]; omega)
          generalize hbb : (q : Int) = b at KS IB hes
          have HBB := hide hbb
          clear hbb
          rw [unhide KS, unhide IB]
          clear KS IB
          obtain ⟨nn, hnn⟩ : ∃ nn : Int, nn = ((Img.syn (imgOf cs) 8 (Img.write (imgOf cs) (imgOf ds) b)).1 : Nat) := ⟨_, rfl⟩
          have HS := hide (show nn = 8 ∨ Img.sameImg (imgOf cs) (Img.syn (imgOf cs) 8 (Img.write (imgOf cs) (imgOf ds) b)).2 = true by
            rcases Img.syn_clean (imgOf cs) 8 (Img.write (imgOf cs) (imgOf ds) b) with z | z
            · left; rw [hnn, z]; rfl
            · exact .inr z)
          have hle8 := Img.syn_le (imgOf cs) 8 (Img.write (imgOf cs) (imgOf ds) b)
          have v0 : decide (0 ≤ nn) = true := by rw [hnn]; simp
          have v0' : decide (nn ≥ 0) = true := by rw [hnn]; simp
          have v8 : decide (nn ≤ 8) = true := by simp; omega
          have HNN := hide hnn
          clear hnn hle8
          go_wp2_with fail
          refine (cSync_any gc cs es (imgOf cs) (Img.write (imgOf cs) (imgOf ds) b) hi hes _ ((unhide B9).row (gc, cs ++ es, 51) (by simp))).mono ?_
          rw [← unhide HNN]
          rintro e w10 ⟨fs, rfl, hfs, hM⟩
          have B10 := hide ((unhide B9).mut0 hM)
          clear B9 hM
          by_cases h8 : nn = 8
          · have x8 : (nn == 8) = true := by simpa using h8
            subst h8
            go_wp2_with fail
            go_ret
            exact ⟨rfl, (unhide B10).below⟩
          · have x8 : (nn == 8) = false := by simpa using h8
            have hcl : Img.sameImg (imgOf cs) (Img.syn (imgOf cs) 8 (Img.write (imgOf cs) (imgOf ds) b)).2 = true := by
              rcases unhide HS with z | z
              · exact absurd z h8
              · exact z
            go_wp2_with fail
            refine (clean_any gc cs fs (imgOf cs) _ hi hfs _ ((unhide B10).row (gc, cs ++ fs, 51) (by simp))).mono ?_
            rw [hcl]
            rintro e w11 ⟨rfl, hb11⟩
            have B11 := hide ((unhide B10).call hb11)
            clear B10 hb11
            go_wp2_with fail
            go_ret
            exact ⟨rfl, (unhide B11).below⟩
        · have KS := hide (kind_dir hd).1
          have IB := hide (show Img.inB ((d + 2 : Nat) : Int) = true by simp [Img.inB]; omega)
          generalize hbb : ((d + 2 : Nat) : Int) = b at KS IB hes
          have HBB := hide hbb
          clear hbb
          rw [unhide KS, unhide IB]
          clear KS IB
          obtain ⟨nn, hnn⟩ : ∃ nn : Int, nn = ((Img.syn (imgOf cs) 8 (Img.write (imgOf cs) (imgOf ds) b)).1 : Nat) := ⟨_, rfl⟩
          have HS := hide (show nn = 8 ∨ Img.sameImg (imgOf cs) (Img.syn (imgOf cs) 8 (Img.write (imgOf cs) (imgOf ds) b)).2 = true by
            rcases Img.syn_clean (imgOf cs) 8 (Img.write (imgOf cs) (imgOf ds) b) with z | z
            · left; rw [hnn, z]; rfl
            · exact .inr z)
          have hle8 := Img.syn_le (imgOf cs) 8 (Img.write (imgOf cs) (imgOf ds) b)
          have v0 : decide (0 ≤ nn) = true := by rw [hnn]; simp
          have v0' : decide (nn ≥ 0) = true := by rw [hnn]; simp
          have v8 : decide (nn ≤ 8) = true := by simp; omega
          have HNN := hide hnn
          clear hnn hle8
          go_wp2_with fail
          refine (cSync_any gc cs es (imgOf cs) (Img.write (imgOf cs) (imgOf ds) b) hi hes _ ((unhide B9).row (gc, cs ++ es, 51) (by simp))).mono ?_
          rw [← unhide HNN]
          rintro e w10 ⟨fs, rfl, hfs, hM⟩
          have B10 := hide ((unhide B9).mut0 hM)
          clear B9 hM
          by_cases h8 : nn = 8
          · have x8 : (nn == 8) = true := by simpa using h8
            subst h8
            go_wp2_with fail
            go_ret
            exact ⟨rfl, (unhide B10).below⟩
          · have x8 : (nn == 8) = false := by simpa using h8
            have hcl : Img.sameImg (imgOf cs) (Img.syn (imgOf cs) 8 (Img.write (imgOf cs) (imgOf ds) b)).2 = true := by
              rcases unhide HS with z | z
              · exact absurd z h8
              · exact z
            go_wp2_with fail
            refine (clean_any gc cs fs (imgOf cs) _ hi hfs _ ((unhide B10).row (gc, cs ++ fs, 51) (by simp))).mono ?_
            rw [hcl]
            rintro e w11 ⟨rfl, hb11⟩
            have B11 := hide ((unhide B10).call hb11)
            clear B10 hb11
            go_wp2_with fail
            go_ret
            exact ⟨rfl, (unhide B11).below⟩
        · have KS := hide (kind_data hx).1
          have IB := hide (show Img.inB ((x + 5 : Nat) : Int) = true by simp [Img.inB]; omega)
          generalize hbb : ((x + 5 : Nat) : Int) = b at KS IB hes
          have HBB := hide hbb
          clear hbb
          rw [unhide KS, unhide IB]
          clear KS IB
          have DW := hide (show Img.dirty (imgOf cs) (Img.write (imgOf cs) (imgOf ds) b) b = false by rw [← unhide HBB]; exact Img.dirty_written _ _ hx)
          go_wp2_with fail
          refine (cDirty_any gc cs es (imgOf cs) _ hi hes b _ ((unhide B9).row (gc, cs ++ es, 51) (by simp))).mono ?_
          rw [unhide DW]
          rintro e w8 ⟨rfl, hb8⟩
          have B9x := hide ((unhide B9).call hb8)
          clear B9 hb8
          have B9 := B9x
          clear B9x
          obtain ⟨nn, hnn⟩ : ∃ nn : Int, nn = ((Img.syn (imgOf cs) 8 (Img.write (imgOf cs) (imgOf ds) b)).1 : Nat) := ⟨_, rfl⟩
          have HS := hide (show nn = 8 ∨ Img.sameImg (imgOf cs) (Img.syn (imgOf cs) 8 (Img.write (imgOf cs) (imgOf ds) b)).2 = true by
            rcases Img.syn_clean (imgOf cs) 8 (Img.write (imgOf cs) (imgOf ds) b) with z | z
            · left; rw [hnn, z]; rfl
            · exact .inr z)
          have hle8 := Img.syn_le (imgOf cs) 8 (Img.write (imgOf cs) (imgOf ds) b)
          have v0 : decide (0 ≤ nn) = true := by rw [hnn]; simp
          have v0' : decide (nn ≥ 0) = true := by rw [hnn]; simp
          have v8 : decide (nn ≤ 8) = true := by simp; omega
          have HNN := hide hnn
          clear hnn hle8
          go_wp2_with fail
          refine (cSync_any gc cs es (imgOf cs) (Img.write (imgOf cs) (imgOf ds) b) hi hes _ ((unhide B9).row (gc, cs ++ es, 51) (by simp))).mono ?_
          rw [← unhide HNN]
          rintro e w10 ⟨fs, rfl, hfs, hM⟩
          have B10 := hide ((unhide B9).mut0 hM)
          clear B9 hM
          by_cases h8 : nn = 8
          · have x8 : (nn == 8) = true := by simpa using h8
            subst h8
            go_wp2_with fail
            go_ret
            exact ⟨rfl, (unhide B10).below⟩
          · have x8 : (nn == 8) = false := by simpa using h8
            have hcl : Img.sameImg (imgOf cs) (Img.syn (imgOf cs) 8 (Img.write (imgOf cs) (imgOf ds) b)).2 = true := by
              rcases unhide HS with z | z
              · exact absurd z h8
              · exact z
            go_wp2_with fail
            refine (clean_any gc cs fs (imgOf cs) _ hi hfs _ ((unhide B10).row (gc, cs ++ fs, 51) (by simp))).mono ?_
            rw [hcl]
            rintro e w11 ⟨rfl, hb11⟩
            have B11 := hide ((unhide B10).call hb11)
            clear B10 hb11
            go_wp2_with fail
            go_ret
            exact ⟨rfl, (unhide B11).below⟩
end Go.Proofs.Ytgipceeheohafab
