/-
  The walk of eiderdownlaw.SafeOne.
-/
import Derived.Test.YtcpfnnllopbgaaaTp
import Derived.Test.YtcpfnnllopbgaaaTi
namespace Go.Proofs.Ytcpfnnllopbgaaa
open Go.RowKit
theorem Img.backInos_step {x disk : Img} {n k : Nat} : Img.backInos x disk n (k + 1) = (Img.backInos x disk n k).putIno (n + k) (disk.inode (n + k)) := rfl
set_option maxRecDepth 100000 in
set_option maxHeartbeats 4000000 in
theorem safeOne_ino (cs ds : Array Value) (hk : Kinds cs) (hl : Kinds ds) (b : Int) (q : Nat) (hq : q + 4 ≤ 8) (hS : kindS b = ⟨#[105, 110, 111, 100, 101, 115]⟩) (hN : kindN b = (q : Nat)) (hW : ∀ m k, Img.write m k b = Img.wInos m k q 4) (h0 : 0 ≤ b) (h14 : b < 14) (w : World) :
    Calls Try.prog 11 #[.agg cs, .agg ds, .int .i64 b] w fun e w' => e = .returned (.bool true) ∧ Below w.heap.size w w' := by
  have hi := hk.isImg
  have hj := hl.isImg
  have z := zero_img.1
  have B0 := hide (Boxes.args w cs ds)
  have hin : Img.inB b = true := by simp [Img.inB, h0, h14]
  have t0 : decide (0 ≤ b) = true := by simp; omega
  have t1 : decide (b < 14) = true := by simp; omega
  go_enter Try.func11, Try.ntmps11
  go_wp2_with fail
  generalize (w.alloc (.cells cs 34)).alloc (.cells ds 34) = X0 at B0 ⊢
  generalize w.heap.size + 1 = gd at B0 ⊢
  refine (safeBegun_any _).mono ?_
  rintro e w1 ⟨rfl, hb1⟩
  have B1 := hide ((unhide B0).call hb1)
  clear B0 hb1
  have r1 := hide ((unhide B1).row (w.heap.size, cs) (by simp))
  go_wp2_with (have hx := unhide r1; refine wpList_load_row rfl 34 _ rfl w.heap.size rfl 34 cs (0, 0) _ hx img_under rfl (img_info hi.size) ?_; clear hx r1)
  refine (great_any cs _ hi _).mono ?_
  rintro e w2 ⟨⟨v, rfl⟩, hb2⟩
  have B2 := hide ((unhide B1).call hb2)
  clear B1 hb2
  cases v
  case true =>
    go_wp2_with fail
    go_ret
    exact ⟨rfl, (unhide B2).below⟩
  have r2 := hide ((unhide B2).row (gd, ds) (by simp))
  go_wp2_with (have hx := unhide r2; refine wpList_load_row_g rfl 34 _ rfl gd rfl 34 ds (0, 0) _ hx img_under rfl (img_info hj.size) ?_; clear hx r2)
  refine (great_any ds _ hj _).mono ?_
  rintro e w3 ⟨⟨v, rfl⟩, hb3⟩
  have B3 := hide ((unhide B2).call hb3)
  clear B2 hb3
  cases v
  case true =>
    go_wp2_with fail
    go_ret
    exact ⟨rfl, (unhide B3).below⟩
  go_wp2_with fail
  refine (write_any w.heap.size gd (imgOf cs) (imgOf ds) b _ ((unhide B3).has (by simp) hi) ((unhide B3).is (by simp) hj)).mono ?_
  rw [hin, hW]
  rintro e wx ⟨⟨cx, rfl, hx⟩, hbx⟩
  have Bx0 := hide ((unhide B3).call hbx)
  clear hbx B3
  have sx := hide (heap_alloc_last wx (.cells zeroCells 34))
  have Bx := hide ((unhide Bx0).new cx)
  clear Bx0
  go_wp2_with (first | (have hx9 := unhide sx; refine wpList_store_row rfl 34 _ _ rfl wx.heap.size cx rfl rfl 34 zeroCells hx9 (img_info hx.size) (zero_size hx) hx.all ?_; clear hx9 sx; generalize (wx.alloc (.cells zeroCells 34)).setRow wx.heap.size cx = Xx at Bx ⊢; generalize wx.heap.size = gx at Bx ⊢))
  refine (block_any _ _).mono ?_
  rw [hS, hN]
  rintro e wz ⟨rfl, ez⟩
  rw [ez]
  clear ez wz
  have rx := hide ((unhide Bx).row (gx, cx) (by simp))
  have sy := hide (heap_alloc_last Xx (.cells zeroCells 34))
  have By := hide ((unhide Bx).new cx)
  have ly := fun p hp => (unhide Bx).hi (p := p) hp
  clear Bx
  go_wp2_with (first | (have hx9 := unhide rx; refine wpList_load_row rfl 34 _ rfl gx rfl 34 cx (0, 0) _ hx9 img_under rfl (img_info hx.size) ?_; clear hx9 rx) | (have hx9 := unhide sy; refine wpList_store_row rfl 34 _ _ rfl Xx.heap.size cx rfl rfl 34 zeroCells hx9 (img_info hx.size) (zero_size hx) hx.all ?_; clear hx9 sy; generalize (Xx.alloc (.cells zeroCells 34)).setRow Xx.heap.size cx = Xy at By ⊢; generalize Xx.heap.size = gy at By ly ⊢))
  go_loopw [12] (fun i wr => ∃ kk : Nat, kk ≤ 4 ∧ i = .int .i64 kk ∧ ∃ cy, Boxes w wr ((gy, cy) :: (gx, cx) :: (gd, ds) :: (w.heap.size, cs) :: []) ∧ IsImg cy (Img.backInos (Img.wInos (imgOf cs) (imgOf ds) q 4) (imgOf ds) q kk)) (fun i _ => 4 - (intOf i).toNat)
  case atStart => exact ⟨0, by omega, rfl, cx, unhide By, hx⟩
  case round =>
    clear By
    obtain ⟨kk, hkk, rfl, cy, hB, hy⟩ := hrel
    have Bl := hide hB
    clear hB
    by_cases hlt : kk < 4
    · have hD := (unhide Bl).has (g := gd) (by simp) hj
      have f0 := hD.live (q + kk) (by omega)
      have f1 := hD.stamp (q + kk) (by omega)
      have f2 := hD.links (q + kk) (by omega)
      have f3 := hD.part (q + kk) 0 (by omega) (by omega)
      have f4 := hD.part (q + kk) 1 (by omega) (by omega)
      clear hD
      have hY := (unhide Bl).has (g := gy) (by simp) hy
      have e0 := hY.live (q + kk) (by omega)
      have e1 := hY.stamp (q + kk) (by omega)
      have e2 := hY.links (q + kk) (by omega)
      have e3 := hY.part (q + kk) 0 (by omega) (by omega)
      have e4 := hY.part (q + kk) 1 (by omega) (by omega)
      clear hY
      have fz := (unhide Bl).fz (g := gy) (c := cy) (by simp)
      have hI := hide (hy.putIno (n := q + kk) (by omega) ((imgOf ds).inode (q + kk)))
      have t8 : decide ((q : Int) + (kk : Int) < 8) = true := by simp; omega
      have t9 : decide (0 ≤ (q : Int)) = true := by simp
      have hk8 : q + kk < 8 := by omega
      go_wp2_with fail
      go_roundw
      case rel => exact ⟨kk + 1, by omega, by go_num, _, ((((((unhide Bl).set (fun p hp => Nat.ne_of_lt (ly p hp)) _ _).set (fun p hp => Nat.ne_of_lt (ly p hp)) _ _).set (fun p hp => Nat.ne_of_lt (ly p hp)) _ _).set (fun p hp => Nat.ne_of_lt (ly p hp)) _ _).set (fun p hp => Nat.ne_of_lt (ly p hp)) _ _), by rw [Img.backInos_step]; exact unhide hI⟩
      case measure => simp [intOf]; omega
    · have e : kk = 4 := by omega
      subst e
      obtain rfl : cy = ds := hy.agree hj (Img.back_inos _ _ _)
      have qn := neqImg hj
      have ry := hide ((unhide Bl).row (gy, cy) (by simp))
      have rd := hide ((unhide Bl).row (gd, cy) (by simp))
      go_wp2_with (first | (have hx9 := unhide ry; refine wpList_load_row rfl 34 _ rfl gy rfl 34 cy (0, 0) _ hx9 img_under rfl (img_info hj.size) ?_; clear hx9 ry) | (have hx9 := unhide rd; refine wpList_load_row rfl 34 _ rfl gd rfl 34 cy (0, 0) _ hx9 img_under rfl (img_info hj.size) ?_; clear hx9 rd))
      clear qn
      refine (write_any w.heap.size gx (imgOf cs) (Img.wInos (imgOf cs) (imgOf cy) q 4) b _ ((unhide Bl).has (by simp) hi) ((unhide Bl).is (by simp) hx)).mono ?_
      rw [hin, hW]
      rintro e wz ⟨⟨cz, rfl, hz⟩, hbz⟩
      obtain rfl : cz = cx := hz.agree hx (Img.again_inos _ _ _)
      have qn := neqImg hx
      have Bz0 := hide ((unhide Bl).call hbz)
      clear hbz Bl
      have sz := hide (heap_alloc_last wz (.cells zeroCells 34))
      have Bz := hide ((unhide Bz0).new cz)
      clear Bz0
      have rz := hide ((unhide Bz).row (wz.heap.size, cz) (by simp))
      have rx := hide ((unhide Bz).row (gx, cz) (by simp))
      go_wp2_with (first | (have hx9 := unhide sz; refine wpList_store_row rfl 34 _ _ rfl wz.heap.size cz rfl rfl 34 zeroCells hx9 (img_info hx.size) (zero_size hx) hx.all ?_; clear hx9 sz; generalize (wz.alloc (.cells zeroCells 34)).setRow wz.heap.size cz = Xz at Bz rz rx ⊢; generalize wz.heap.size = gz at Bz rz ⊢) | (have hx9 := unhide rz; refine wpList_load_row_g rfl 34 _ rfl gz rfl 34 cz (0, 0) _ hx9 img_under rfl (img_info hx.size) ?_; clear hx9 rz) | (have hx9 := unhide rx; refine wpList_load_row_g rfl 34 _ rfl gx rfl 34 cz (0, 0) _ hx9 img_under rfl (img_info hx.size) ?_; clear hx9 rx))
      clear qn
      refine (exact_any _ (imgOf cs) _ ((unhide Bz).has (g := w.heap.size) (by simp) hi)).mono ?_
      rintro e we ⟨rfl, hbe⟩
      have Be := hide ((unhide Bz).call hbe)
      clear Bz hbe
      cases hex : (imgOf cs).exact
      case false =>
        go_wp2_with fail
        go_ret
        exact ⟨rfl, (unhide Be).below⟩
      go_wp2_with fail
      refine (write_any w.heap.size w.heap.size (imgOf cs) (imgOf cs) b _ ((unhide Be).has (by simp) hi) ((unhide Be).is (by simp) hi)).mono ?_
      rw [hin]
      rintro e wu ⟨⟨cu, rfl, hu⟩, hbu⟩
      obtain rfl : cu = cs := hu.agree hi (Img.exact_write hex b)
      have qe := eqImg hi
      have Bu0 := hide ((unhide Be).call hbu)
      clear hbu Be
      have su := hide (heap_alloc_last wu (.cells zeroCells 34))
      have Bu := hide ((unhide Bu0).new cu)
      clear Bu0
      have ru := hide ((unhide Bu).row (wu.heap.size, cu) (by simp))
      have rn := hide ((unhide Bu).row (w.heap.size, cu) (by simp))
      go_wp2_with (first | (have hx9 := unhide su; refine wpList_store_row rfl 34 _ _ rfl wu.heap.size cu rfl rfl 34 zeroCells hx9 (img_info hi.size) (zero_size hi) hi.all ?_; clear hx9 su; generalize (wu.alloc (.cells zeroCells 34)).setRow wu.heap.size cu = Xu at Bu ru rn ⊢; generalize wu.heap.size = gu at Bu ru ⊢) | (have hx9 := unhide ru; refine wpList_load_row rfl 34 _ rfl gu rfl 34 cu (0, 0) _ hx9 img_under rfl (img_info hi.size) ?_; clear hx9 ru) | (have hx9 := unhide rn; refine wpList_load_row rfl 34 _ rfl w.heap.size rfl 34 cu (0, 0) _ hx9 img_under rfl (img_info hi.size) ?_; clear hx9 rn))
      go_ret
      exact ⟨rfl, (unhide Bu).below⟩
set_option maxRecDepth 100000 in
set_option maxHeartbeats 4000000 in
theorem safeOne_data (cs ds : Array Value) (hk : Kinds cs) (hl : Kinds ds) (b : Int) (x : Nat) (hxx : x < 9) (hS : kindS b = ⟨#[100, 97, 116, 97]⟩) (hN : kindN b = (x : Nat)) (hW : ∀ m k : Img, Img.write m k b = k.putData x (m.of x) (m.text x)) (h0 : 0 ≤ b) (h14 : b < 14) (w : World) :
    Calls Try.prog 11 #[.agg cs, .agg ds, .int .i64 b] w fun e w' => e = .returned (.bool true) ∧ Below w.heap.size w w' := by
  have hi := hk.isImg
  have hj := hl.isImg
  have z := zero_img.1
  have B0 := hide (Boxes.args w cs ds)
  have hin : Img.inB b = true := by simp [Img.inB, h0, h14]
  have t0 : decide (0 ≤ b) = true := by simp; omega
  have t1 : decide (b < 14) = true := by simp; omega
  have t2 : decide ((x : Int) < 0) = false := by simp
  have t3 : decide (9 ≤ (x : Int)) = false := by simp; omega
  go_enter Try.func11, Try.ntmps11
  go_wp2_with fail
  generalize (w.alloc (.cells cs 34)).alloc (.cells ds 34) = X0 at B0 ⊢
  generalize w.heap.size + 1 = gd at B0 ⊢
  refine (safeBegun_any _).mono ?_
  rintro e w1 ⟨rfl, hb1⟩
  have B1 := hide ((unhide B0).call hb1)
  clear B0 hb1
  have r1 := hide ((unhide B1).row (w.heap.size, cs) (by simp))
  go_wp2_with (have hx := unhide r1; refine wpList_load_row rfl 34 _ rfl w.heap.size rfl 34 cs (0, 0) _ hx img_under rfl (img_info hi.size) ?_; clear hx r1)
  refine (great_any cs _ hi _).mono ?_
  rintro e w2 ⟨⟨v, rfl⟩, hb2⟩
  have B2 := hide ((unhide B1).call hb2)
  clear B1 hb2
  cases v
  case true =>
    go_wp2_with fail
    go_ret
    exact ⟨rfl, (unhide B2).below⟩
  have r2 := hide ((unhide B2).row (gd, ds) (by simp))
  go_wp2_with (have hx := unhide r2; refine wpList_load_row_g rfl 34 _ rfl gd rfl 34 ds (0, 0) _ hx img_under rfl (img_info hj.size) ?_; clear hx r2)
  refine (great_any ds _ hj _).mono ?_
  rintro e w3 ⟨⟨v, rfl⟩, hb3⟩
  have B3 := hide ((unhide B2).call hb3)
  clear B2 hb3
  cases v
  case true =>
    go_wp2_with fail
    go_ret
    exact ⟨rfl, (unhide B3).below⟩
  go_wp2_with fail
  refine (write_any w.heap.size gd (imgOf cs) (imgOf ds) b _ ((unhide B3).has (by simp) hi) ((unhide B3).is (by simp) hj)).mono ?_
  rw [hin, hW]
  rintro e wx ⟨⟨cx, rfl, hx⟩, hbx⟩
  have Bx0 := hide ((unhide B3).call hbx)
  clear hbx B3
  have sx := hide (heap_alloc_last wx (.cells zeroCells 34))
  have Bx := hide ((unhide Bx0).new cx)
  clear Bx0
  go_wp2_with (first | (have hx9 := unhide sx; refine wpList_store_row rfl 34 _ _ rfl wx.heap.size cx rfl rfl 34 zeroCells hx9 (img_info hx.size) (zero_size hx) hx.all ?_; clear hx9 sx; generalize (wx.alloc (.cells zeroCells 34)).setRow wx.heap.size cx = Xx at Bx ⊢; generalize wx.heap.size = gx at Bx ⊢))
  refine (block_any _ _).mono ?_
  rw [hS, hN]
  rintro e wz ⟨rfl, ez⟩
  rw [ez]
  clear ez wz
  have rx := hide ((unhide Bx).row (gx, cx) (by simp))
  have sy := hide (heap_alloc_last Xx (.cells zeroCells 34))
  have By := hide ((unhide Bx).new cx)
  have ly := fun p hp => (unhide Bx).hi (p := p) hp
  clear Bx
  have hD := (unhide By).has (g := gd) (by simp) hj
  have hY := (unhide By).has (g := Xx.heap.size) (by simp) hx
  have f0 := hD.of x hxx
  have f1 := hD.text x hxx
  have e0 := hY.of x hxx
  have e1 := hY.text x hxx
  clear hD hY
  have fz := (unhide By).fz (g := Xx.heap.size) (c := cx) (by simp)
  have Bl := hide (((((unhide By).set (fun p hp => Nat.ne_of_lt (ly p hp)) (76 + x * 2) (.int .i64 ((imgOf ds).of x)))).set (fun p hp => Nat.ne_of_lt (ly p hp)) (76 + x * 2 + 1) (.string ((imgOf ds).text x))))
  have hy := hx.putData hxx ((imgOf ds).of x) ((imgOf ds).text x) (hj.short x)
  have hcy : ((cx.setIfInBounds (76 + x * 2) (.int .i64 ((imgOf ds).of x))).setIfInBounds (76 + x * 2 + 1) (.string ((imgOf ds).text x))) = ds := hy.agree hj (Img.back_data _ _ _)
  rw [hcy] at Bl
  clear hy hcy
  have qn := neqImg hj
  have ry := hide ((unhide Bl).row (Xx.heap.size, ds) (by simp))
  have rd := hide ((unhide Bl).row (gd, ds) (by simp))
  go_wp2_with (first | (have hx9 := unhide rx; refine wpList_load_row rfl 34 _ rfl gx rfl 34 cx (0, 0) _ hx9 img_under rfl (img_info hx.size) ?_; clear hx9 rx) | (have hx9 := unhide sy; refine wpList_store_row rfl 34 _ _ rfl Xx.heap.size cx rfl rfl 34 zeroCells hx9 (img_info hx.size) (zero_size hx) hx.all ?_; clear hx9 sy; generalize (Xx.alloc (.cells zeroCells 34)).setRow Xx.heap.size cx = Xy at By Bl ry rd fz f0 f1 e0 e1 ⊢; generalize Xx.heap.size = gy at By Bl ry rd fz ly f0 f1 e0 e1 ⊢) | (have hx9 := unhide ry; refine wpList_load_row rfl 34 _ rfl gy rfl 34 ds (0, 0) _ hx9 img_under rfl (img_info hj.size) ?_; clear hx9 ry) | (have hx9 := unhide rd; refine wpList_load_row rfl 34 _ rfl gd rfl 34 ds (0, 0) _ hx9 img_under rfl (img_info hj.size) ?_; clear hx9 rd))
  clear qn By fz f0 f1 e0 e1
  refine (write_any w.heap.size gx (imgOf cs) ((imgOf ds).putData x ((imgOf cs).of x) ((imgOf cs).text x)) b _ ((unhide Bl).has (by simp) hi) ((unhide Bl).is (by simp) hx)).mono ?_
  rw [hin, hW]
  rintro e wz ⟨⟨cz, rfl, hz⟩, hbz⟩
  obtain rfl : cz = cx := hz.agree hx (Img.again_data _ _ _)
  have qn := neqImg hx
  have Bz0 := hide ((unhide Bl).call hbz)
  clear hbz Bl
  have sz := hide (heap_alloc_last wz (.cells zeroCells 34))
  have Bz := hide ((unhide Bz0).new cz)
  clear Bz0
  have rz := hide ((unhide Bz).row (wz.heap.size, cz) (by simp))
  have rx := hide ((unhide Bz).row (gx, cz) (by simp))
  go_wp2_with (first | (have hx9 := unhide sz; refine wpList_store_row rfl 34 _ _ rfl wz.heap.size cz rfl rfl 34 zeroCells hx9 (img_info hx.size) (zero_size hx) hx.all ?_; clear hx9 sz; generalize (wz.alloc (.cells zeroCells 34)).setRow wz.heap.size cz = Xz at Bz rz rx ⊢; generalize wz.heap.size = gz at Bz rz ⊢) | (have hx9 := unhide rz; refine wpList_load_row_g rfl 34 _ rfl gz rfl 34 cz (0, 0) _ hx9 img_under rfl (img_info hx.size) ?_; clear hx9 rz) | (have hx9 := unhide rx; refine wpList_load_row_g rfl 34 _ rfl gx rfl 34 cz (0, 0) _ hx9 img_under rfl (img_info hx.size) ?_; clear hx9 rx))
  clear qn
  refine (exact_any _ (imgOf cs) _ ((unhide Bz).has (g := w.heap.size) (by simp) hi)).mono ?_
  rintro e we ⟨rfl, hbe⟩
  have Be := hide ((unhide Bz).call hbe)
  clear Bz hbe
  cases hex : (imgOf cs).exact
  case false =>
    go_wp2_with fail
    go_ret
    exact ⟨rfl, (unhide Be).below⟩
  go_wp2_with fail
  refine (write_any w.heap.size w.heap.size (imgOf cs) (imgOf cs) b _ ((unhide Be).has (by simp) hi) ((unhide Be).is (by simp) hi)).mono ?_
  rw [hin]
  rintro e wu ⟨⟨cu, rfl, hu⟩, hbu⟩
  obtain rfl : cu = cs := hu.agree hi (Img.exact_write hex b)
  have qe := eqImg hi
  have Bu0 := hide ((unhide Be).call hbu)
  clear hbu Be
  have su := hide (heap_alloc_last wu (.cells zeroCells 34))
  have Bu := hide ((unhide Bu0).new cu)
  clear Bu0
  have ru := hide ((unhide Bu).row (wu.heap.size, cu) (by simp))
  have rn := hide ((unhide Bu).row (w.heap.size, cu) (by simp))
  go_wp2_with (first | (have hx9 := unhide su; refine wpList_store_row rfl 34 _ _ rfl wu.heap.size cu rfl rfl 34 zeroCells hx9 (img_info hi.size) (zero_size hi) hi.all ?_; clear hx9 su; generalize (wu.alloc (.cells zeroCells 34)).setRow wu.heap.size cu = Xu at Bu ru rn ⊢; generalize wu.heap.size = gu at Bu ru ⊢) | (have hx9 := unhide ru; refine wpList_load_row rfl 34 _ rfl gu rfl 34 cu (0, 0) _ hx9 img_under rfl (img_info hi.size) ?_; clear hx9 ru) | (have hx9 := unhide rn; refine wpList_load_row rfl 34 _ rfl w.heap.size rfl 34 cu (0, 0) _ hx9 img_under rfl (img_info hi.size) ?_; clear hx9 rn))
  go_ret
  exact ⟨rfl, (unhide Bu).below⟩
set_option maxRecDepth 100000 in
set_option maxHeartbeats 4000000 in
theorem safeOne_dir (cs ds : Array Value) (hk : Kinds cs) (hl : Kinds ds) (b : Int) (d : Nat) (hd : d < 3) (hS : kindS b = ⟨#[100, 105, 114]⟩) (hN : kindN b = (d : Nat)) (hW : ∀ m k, Img.write m k b = Img.wDir m k d 4) (h0 : 0 ≤ b) (h14 : b < 14) (w : World) :
    Calls Try.prog 11 #[.agg cs, .agg ds, .int .i64 b] w fun e w' => e = .returned (.bool true) ∧ Below w.heap.size w w' := by
  have hi := hk.isImg
  have hj := hl.isImg
  have z := zero_img.1
  have B0 := hide (Boxes.args w cs ds)
  have hin : Img.inB b = true := by simp [Img.inB, h0, h14]
  have t0 : decide (0 ≤ b) = true := by simp; omega
  have t1 : decide (b < 14) = true := by simp; omega
  have t2 : decide ((d : Int) < 0) = false := by simp
  have t3 : decide (3 ≤ (d : Int)) = false := by simp; omega
  go_enter Try.func11, Try.ntmps11
  go_wp2_with fail
  generalize (w.alloc (.cells cs 34)).alloc (.cells ds 34) = X0 at B0 ⊢
  generalize w.heap.size + 1 = gd at B0 ⊢
  refine (safeBegun_any _).mono ?_
  rintro e w1 ⟨rfl, hb1⟩
  have B1 := hide ((unhide B0).call hb1)
  clear B0 hb1
  have r1 := hide ((unhide B1).row (w.heap.size, cs) (by simp))
  go_wp2_with (have hx := unhide r1; refine wpList_load_row rfl 34 _ rfl w.heap.size rfl 34 cs (0, 0) _ hx img_under rfl (img_info hi.size) ?_; clear hx r1)
  refine (great_any cs _ hi _).mono ?_
  rintro e w2 ⟨⟨v, rfl⟩, hb2⟩
  have B2 := hide ((unhide B1).call hb2)
  clear B1 hb2
  cases v
  case true =>
    go_wp2_with fail
    go_ret
    exact ⟨rfl, (unhide B2).below⟩
  have r2 := hide ((unhide B2).row (gd, ds) (by simp))
  go_wp2_with (have hx := unhide r2; refine wpList_load_row_g rfl 34 _ rfl gd rfl 34 ds (0, 0) _ hx img_under rfl (img_info hj.size) ?_; clear hx r2)
  refine (great_any ds _ hj _).mono ?_
  rintro e w3 ⟨⟨v, rfl⟩, hb3⟩
  have B3 := hide ((unhide B2).call hb3)
  clear B2 hb3
  cases v
  case true =>
    go_wp2_with fail
    go_ret
    exact ⟨rfl, (unhide B3).below⟩
  go_wp2_with fail
  refine (write_any w.heap.size gd (imgOf cs) (imgOf ds) b _ ((unhide B3).has (by simp) hi) ((unhide B3).is (by simp) hj)).mono ?_
  rw [hin, hW]
  rintro e wx ⟨⟨cx, rfl, hx⟩, hbx⟩
  have Bx0 := hide ((unhide B3).call hbx)
  clear hbx B3
  have sx := hide (heap_alloc_last wx (.cells zeroCells 34))
  have Bx := hide ((unhide Bx0).new cx)
  clear Bx0
  go_wp2_with (first | (have hx9 := unhide sx; refine wpList_store_row rfl 34 _ _ rfl wx.heap.size cx rfl rfl 34 zeroCells hx9 (img_info hx.size) (zero_size hx) hx.all ?_; clear hx9 sx; generalize (wx.alloc (.cells zeroCells 34)).setRow wx.heap.size cx = Xx at Bx ⊢; generalize wx.heap.size = gx at Bx ⊢))
  refine (block_any _ _).mono ?_
  rw [hS, hN]
  rintro e wz ⟨rfl, ez⟩
  rw [ez]
  clear ez wz
  have rx := hide ((unhide Bx).row (gx, cx) (by simp))
  have sy := hide (heap_alloc_last Xx (.cells zeroCells 34))
  have By := hide ((unhide Bx).new cx)
  have ly := fun p hp => (unhide Bx).hi (p := p) hp
  clear Bx
  have pd := hide ((unhide By).row (gd, ds) (by simp))
  have py := hide ((unhide By).row (Xx.heap.size, cx) (by simp))
  have Bl := hide ((unhide By).part (fun p hp => Nat.ne_of_lt (ly p hp)) (splice cx (40 + d * 12) (ds.extract (40 + d * 12) (40 + d * 12 + 12))))
  have hcy := hide (dir_back hx hj hd (Img.back_dir _ _ _))
  have qn := neqImg hj
  go_wp2_with (first | (have hx9 := unhide rx; refine wpList_load_row rfl 34 _ rfl gx rfl 34 cx (0, 0) _ hx9 img_under rfl (img_info hx.size) ?_; clear hx9 rx) | (have hx9 := unhide sy; refine wpList_store_row rfl 34 _ _ rfl Xx.heap.size cx rfl rfl 34 zeroCells hx9 (img_info hx.size) (zero_size hx) hx.all ?_; clear hx9 sy; generalize (Xx.alloc (.cells zeroCells 34)).setRow Xx.heap.size cx = Xy at By Bl pd py ⊢; generalize Xx.heap.size = gy at By Bl py ly ⊢) | (have hx9 := unhide pd; refine wpList_load_part rfl 28 _ rfl gd (40 + d * 12) 12 rfl 34 ds _ hx9 Try.underlying28 rfl dir_info (by rw [hj.size]; omega) ?_; clear hx9 pd) | (have hx9 := unhide py; refine wpList_store_part rfl 28 _ _ rfl gy (40 + d * 12) (ds.extract (40 + d * 12) (40 + d * 12 + 12)) rfl rfl 34 cx hx9 (dir_cells hj hd) (by rw [hx.size]; simp [hj.size]; omega) (all_extract hj.all) ?_; clear hx9 py; rw [unhide hcy] at Bl ⊢; generalize Xy.setRow gy ds = Xl at Bl ⊢; have ry := hide ((unhide Bl).row (gy, ds) (by simp)); have rd := hide ((unhide Bl).row (gd, ds) (by simp)); clear By hcy) | (have hx9 := unhide ry; refine wpList_load_row rfl 34 _ rfl gy rfl 34 ds (0, 0) _ hx9 img_under rfl (img_info hj.size) ?_; clear hx9 ry) | (have hx9 := unhide rd; refine wpList_load_row rfl 34 _ rfl gd rfl 34 ds (0, 0) _ hx9 img_under rfl (img_info hj.size) ?_; clear hx9 rd))
  clear qn
  refine (write_any w.heap.size gx (imgOf cs) (Img.wDir (imgOf cs) (imgOf ds) d 4) b _ ((unhide Bl).has (by simp) hi) ((unhide Bl).is (by simp) hx)).mono ?_
  rw [hin]
  rintro e wz ⟨⟨cz, rfl, hz⟩, hbz⟩
  have Bz0 := hide ((unhide Bl).call hbz)
  clear hbz Bl
  have sz := hide (heap_alloc_last wz (.cells zeroCells 34))
  have Bz := hide ((unhide Bz0).new cz)
  clear Bz0
  go_wp2_with (first | (have hx9 := unhide sz; refine wpList_store_row rfl 34 _ _ rfl wz.heap.size cz rfl rfl 34 zeroCells hx9 (img_info hz.size) (zero_size hz) hz.all ?_; clear hx9 sz; generalize (wz.alloc (.cells zeroCells 34)).setRow wz.heap.size cz = Xz at Bz ⊢; generalize wz.heap.size = gz at Bz ⊢))
  refine (exact_any _ (imgOf cs) _ ((unhide Bz).has (g := w.heap.size) (by simp) hi)).mono ?_
  rintro e we ⟨rfl, hbe⟩
  have Be := hide ((unhide Bz).call hbe)
  clear Bz hbe
  cases hex : (imgOf cs).exact
  case false =>
    go_wp2_with fail
    go_ret
    exact ⟨rfl, (unhide Be).below⟩
  go_wp2_with fail
  refine (write_any w.heap.size w.heap.size (imgOf cs) (imgOf cs) b _ ((unhide Be).has (by simp) hi) ((unhide Be).is (by simp) hi)).mono ?_
  rw [hin]
  rintro e wu ⟨⟨cu, rfl, hu⟩, hbu⟩
  obtain rfl : cu = cs := hu.agree hi (Img.exact_write hex b)
  have qe := eqImg hi
  have Bu0 := hide ((unhide Be).call hbu)
  clear hbu Be
  have su := hide (heap_alloc_last wu (.cells zeroCells 34))
  have Bu := hide ((unhide Bu0).new cu)
  clear Bu0
  have ru := hide ((unhide Bu).row (wu.heap.size, cu) (by simp))
  have rn := hide ((unhide Bu).row (w.heap.size, cu) (by simp))
  go_wp2_with (first | (have hx9 := unhide su; refine wpList_store_row rfl 34 _ _ rfl wu.heap.size cu rfl rfl 34 zeroCells hx9 (img_info hi.size) (zero_size hi) hi.all ?_; clear hx9 su; generalize (wu.alloc (.cells zeroCells 34)).setRow wu.heap.size cu = Xu at Bu ru rn ⊢; generalize wu.heap.size = gu at Bu ru ⊢) | (have hx9 := unhide ru; refine wpList_load_row rfl 34 _ rfl gu rfl 34 cu (0, 0) _ hx9 img_under rfl (img_info hi.size) ?_; clear hx9 ru) | (have hx9 := unhide rn; refine wpList_load_row rfl 34 _ rfl w.heap.size rfl 34 cu (0, 0) _ hx9 img_under rfl (img_info hi.size) ?_; clear hx9 rn))
  go_ret
  exact ⟨rfl, (unhide Bu).below⟩
set_option maxRecDepth 100000 in
set_option maxHeartbeats 4000000 in
theorem safeOne_lo (cs ds : Array Value) (hk : Kinds cs) (hl : Kinds ds) (b : Int) (hb : b < 0) (w : World) :
    Calls Try.prog 11 #[.agg cs, .agg ds, .int .i64 b] w fun e w' => e = .returned (.bool true) ∧ Below w.heap.size w w' := by
  have hi := hk.isImg
  have hj := hl.isImg
  have z := zero_img.1
  have B0 := hide (Boxes.args w cs ds)
  have hin : Img.inB b = false := by simp [Img.inB]; omega
  have t0 : decide (0 ≤ b) = false := by simp; omega
  go_enter Try.func11, Try.ntmps11
  go_wp2_with fail
  generalize (w.alloc (.cells cs 34)).alloc (.cells ds 34) = X0 at B0 ⊢
  generalize w.heap.size + 1 = gd at B0 ⊢
  refine (safeBegun_any _).mono ?_
  rintro e w1 ⟨rfl, hb1⟩
  have B1 := hide ((unhide B0).call hb1)
  clear B0 hb1
  have r1 := hide ((unhide B1).row (w.heap.size, cs) (by simp))
  go_wp2_with (have hx := unhide r1; refine wpList_load_row rfl 34 _ rfl w.heap.size rfl 34 cs (0, 0) _ hx img_under rfl (img_info hi.size) ?_; clear hx r1)
  refine (great_any cs _ hi _).mono ?_
  rintro e w2 ⟨⟨v, rfl⟩, hb2⟩
  have B2 := hide ((unhide B1).call hb2)
  clear B1 hb2
  cases v
  case true =>
    go_wp2_with fail
    go_ret
    exact ⟨rfl, (unhide B2).below⟩
  have r2 := hide ((unhide B2).row (gd, ds) (by simp))
  go_wp2_with (have hx := unhide r2; refine wpList_load_row_g rfl 34 _ rfl gd rfl 34 ds (0, 0) _ hx img_under rfl (img_info hj.size) ?_; clear hx r2)
  refine (great_any ds _ hj _).mono ?_
  rintro e w3 ⟨⟨v, rfl⟩, hb3⟩
  have B3 := hide ((unhide B2).call hb3)
  clear B2 hb3
  cases v
  case true =>
    go_wp2_with fail
    go_ret
    exact ⟨rfl, (unhide B3).below⟩
  go_wp2_with fail
  refine (write_any w.heap.size gd (imgOf cs) (imgOf ds) b _ ((unhide B3).has (by simp) hi) ((unhide B3).is (by simp) hj)).mono ?_
  rw [hin, Img.write_out hin]
  rintro e wx ⟨⟨cx, rfl, hx⟩, hbx⟩
  obtain rfl : cx = ds := hx.agree hj (Img.Agree.refl _)
  have Bx0 := hide ((unhide B3).call hbx)
  clear hbx B3
  have sx := hide (heap_alloc_last wx (.cells zeroCells 34))
  have Bx := hide ((unhide Bx0).new cx)
  clear Bx0
  go_wp2_with (first | (have hx9 := unhide sx; refine wpList_store_row rfl 34 _ _ rfl wx.heap.size cx rfl rfl 34 zeroCells hx9 (img_info hx.size) (zero_size hx) hx.all ?_; clear hx9 sx; generalize (wx.alloc (.cells zeroCells 34)).setRow wx.heap.size cx = Xx at Bx ⊢; generalize wx.heap.size = gx at Bx ⊢))
  refine (block_any _ _).mono ?_
  rw [(kind_out hin).1, (kind_out hin).2]
  rintro e wz ⟨rfl, ez⟩
  rw [ez]
  clear ez wz
  have qe := eqImg hj
  have rx := hide ((unhide Bx).row (gx, cx) (by simp))
  have rd := hide ((unhide Bx).row (gd, cx) (by simp))
  go_wp2_with (first | (have hx9 := unhide rx; refine wpList_load_row rfl 34 _ rfl gx rfl 34 cx (0, 0) _ hx9 img_under rfl (img_info hj.size) ?_; clear hx9 rx) | (have hx9 := unhide rd; refine wpList_load_row rfl 34 _ rfl gd rfl 34 cx (0, 0) _ hx9 img_under rfl (img_info hj.size) ?_; clear hx9 rd))
  go_ret
  exact ⟨rfl, (unhide Bx).below⟩
set_option maxRecDepth 100000 in
set_option maxHeartbeats 4000000 in
theorem safeOne_hi (cs ds : Array Value) (hk : Kinds cs) (hl : Kinds ds) (b : Int) (hb : 14 ≤ b) (w : World) :
    Calls Try.prog 11 #[.agg cs, .agg ds, .int .i64 b] w fun e w' => e = .returned (.bool true) ∧ Below w.heap.size w w' := by
  have hi := hk.isImg
  have hj := hl.isImg
  have z := zero_img.1
  have B0 := hide (Boxes.args w cs ds)
  have hin : Img.inB b = false := by simp [Img.inB]; omega
  have t0 : decide (0 ≤ b) = true := by simp; omega
  have t1 : decide (b < 14) = false := by simp; omega
  go_enter Try.func11, Try.ntmps11
  go_wp2_with fail
  generalize (w.alloc (.cells cs 34)).alloc (.cells ds 34) = X0 at B0 ⊢
  generalize w.heap.size + 1 = gd at B0 ⊢
  refine (safeBegun_any _).mono ?_
  rintro e w1 ⟨rfl, hb1⟩
  have B1 := hide ((unhide B0).call hb1)
  clear B0 hb1
  have r1 := hide ((unhide B1).row (w.heap.size, cs) (by simp))
  go_wp2_with (have hx := unhide r1; refine wpList_load_row rfl 34 _ rfl w.heap.size rfl 34 cs (0, 0) _ hx img_under rfl (img_info hi.size) ?_; clear hx r1)
  refine (great_any cs _ hi _).mono ?_
  rintro e w2 ⟨⟨v, rfl⟩, hb2⟩
  have B2 := hide ((unhide B1).call hb2)
  clear B1 hb2
  cases v
  case true =>
    go_wp2_with fail
    go_ret
    exact ⟨rfl, (unhide B2).below⟩
  have r2 := hide ((unhide B2).row (gd, ds) (by simp))
  go_wp2_with (have hx := unhide r2; refine wpList_load_row_g rfl 34 _ rfl gd rfl 34 ds (0, 0) _ hx img_under rfl (img_info hj.size) ?_; clear hx r2)
  refine (great_any ds _ hj _).mono ?_
  rintro e w3 ⟨⟨v, rfl⟩, hb3⟩
  have B3 := hide ((unhide B2).call hb3)
  clear B2 hb3
  cases v
  case true =>
    go_wp2_with fail
    go_ret
    exact ⟨rfl, (unhide B3).below⟩
  go_wp2_with fail
  refine (write_any w.heap.size gd (imgOf cs) (imgOf ds) b _ ((unhide B3).has (by simp) hi) ((unhide B3).is (by simp) hj)).mono ?_
  rw [hin, Img.write_out hin]
  rintro e wx ⟨⟨cx, rfl, hx⟩, hbx⟩
  obtain rfl : cx = ds := hx.agree hj (Img.Agree.refl _)
  have Bx0 := hide ((unhide B3).call hbx)
  clear hbx B3
  have sx := hide (heap_alloc_last wx (.cells zeroCells 34))
  have Bx := hide ((unhide Bx0).new cx)
  clear Bx0
  go_wp2_with (first | (have hx9 := unhide sx; refine wpList_store_row rfl 34 _ _ rfl wx.heap.size cx rfl rfl 34 zeroCells hx9 (img_info hx.size) (zero_size hx) hx.all ?_; clear hx9 sx; generalize (wx.alloc (.cells zeroCells 34)).setRow wx.heap.size cx = Xx at Bx ⊢; generalize wx.heap.size = gx at Bx ⊢))
  refine (block_any _ _).mono ?_
  rw [(kind_out hin).1, (kind_out hin).2]
  rintro e wz ⟨rfl, ez⟩
  rw [ez]
  clear ez wz
  have qe := eqImg hj
  have rx := hide ((unhide Bx).row (gx, cx) (by simp))
  have rd := hide ((unhide Bx).row (gd, cx) (by simp))
  go_wp2_with (first | (have hx9 := unhide rx; refine wpList_load_row rfl 34 _ rfl gx rfl 34 cx (0, 0) _ hx9 img_under rfl (img_info hj.size) ?_; clear hx9 rx) | (have hx9 := unhide rd; refine wpList_load_row rfl 34 _ rfl gd rfl 34 cx (0, 0) _ hx9 img_under rfl (img_info hj.size) ?_; clear hx9 rd))
  go_ret
  exact ⟨rfl, (unhide Bx).below⟩
theorem safeOne_any (cs ds : Array Value) (hk : Kinds cs) (hl : Kinds ds) (b : Int) (w : World) :
    Calls Try.prog 11 #[.agg cs, .agg ds, .int .i64 b] w fun e w' => e = .returned (.bool true) ∧ Below w.heap.size w w' := by
  rcases Img.blocks b with h | ⟨q, hq, rfl⟩ | ⟨d, hd, rfl⟩ | ⟨x, hx, rfl⟩
  · by_cases h0 : b < 0
    · exact safeOne_lo cs ds hk hl b h0 w
    · have h1 : 14 ≤ b := by
        simp [Img.inB] at h
        omega
      exact safeOne_hi cs ds hk hl b h1 w
  · exact safeOne_ino cs ds hk hl _ (q * 4) (by omega) (kind_ino hq).1 (by rw [(kind_ino hq).2]; omega) (fun _ _ => Img.write_ino hq) (by omega) (by omega) w
  · exact safeOne_dir cs ds hk hl _ d hd (kind_dir hd).1 (kind_dir hd).2 (fun _ _ => Img.write_dir hd) (by omega) (by omega) w
  · exact safeOne_data cs ds hk hl _ x hx (kind_data hx).1 (kind_data hx).2 (fun _ _ => Img.write_data hx) (by omega) (by omega) w
end Go.Proofs.Ytcpfnnllopbgaaa
