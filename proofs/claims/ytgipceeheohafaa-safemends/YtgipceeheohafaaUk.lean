/-
  The walk of eiderdownlaw.SafeMends.
-/
import Derived.Test.YtgipceeheohafaaUd
namespace Go.Proofs.Ytgipceeheohafaa
open Go.RowKit
theorem Boxes.args2 (w : World) (a b : Array Value) : Boxes w ((w.alloc (.cells a 34)).alloc (.cells b 34)) [(w.heap.size + 1, b), (w.heap.size, a)] := by
  have h := ((Boxes.start w).box a).box b
  have e : (w.alloc (.cells a 34)).heap.size = w.heap.size + 1 := by simp
  rw [e] at h
  exact h
set_option maxRecDepth 100000 in
set_option maxHeartbeats 4000000 in
theorem safeMends_any (cs ds : Array Value) (hk : Kinds cs) (hl : Kinds ds) (b : Int) (w : World) :
    Calls Try.prog 12 #[.agg cs, .agg ds, .int .i64 b] w fun e w' => e = .returned (.bool true) ∧ Below w.heap.size w w' := by
  have hi := hk.isImg
  have hj := hl.isImg
  have z := zero_img.1
  have B0 := hide (Boxes.args2 w cs ds)
  go_enter Try.func12, Try.ntmps12
  go_wp2_with fail
  generalize (w.alloc (.cells cs 34)).alloc (.cells ds 34) = X0 at B0 ⊢
  generalize w.heap.size + 1 = gd at B0 ⊢
  refine (safeBegun_any _).mono ?_
  rintro e w1 ⟨rfl, hb1⟩
  have B1 := hide ((unhide B0).call hb1)
  clear B0 hb1
  have r1 := hide ((unhide B1).row (w.heap.size, cs) (by simp))
  go_wp2_with (have hx := unhide r1; refine wpList_load_row rfl 34 _ rfl w.heap.size rfl 34 cs (0, 0) _ hx img_under rfl (img_info hi.size) ?_; clear hx r1)
  refine (great_any cs _ hi _).mono ?_
  rintro e w2 ⟨⟨v, rfl⟩, hb2⟩
  have B2 := hide ((unhide B1).call hb2)
  clear B1 hb2
  cases v
  case true =>
    go_wp2_with fail
    go_ret
    exact ⟨rfl, (unhide B2).below⟩
  have r2 := hide ((unhide B2).row (gd, ds) (by simp))
  go_wp2_with (have hx := unhide r2; refine wpList_load_row_g rfl 34 _ rfl gd rfl 34 ds (0, 0) _ hx img_under rfl (img_info hj.size) ?_; clear hx r2)
  refine (great_any ds _ hj _).mono ?_
  rintro e w3 ⟨⟨v, rfl⟩, hb3⟩
  have B3 := hide ((unhide B2).call hb3)
  clear B2 hb3
  cases v
  case true =>
    go_wp2_with fail
    go_ret
    exact ⟨rfl, (unhide B3).below⟩
  go_wp2_with fail
  refine (check_any _ (imgOf ds) _ ((unhide B3).has (g := gd) (by simp) hj)).mono ?_
  rintro e w4 ⟨rfl, hb4⟩
  have B4 := hide ((unhide B3).call hb4)
  clear B3 hb4
  cases gc : (imgOf ds).check == 0
  case false =>
    have gn : ((imgOf ds).check != 0) = true := by simpa using gc
    go_wp2_with fail
    go_ret
    exact ⟨rfl, (unhide B4).below⟩
  have gn : ((imgOf ds).check != 0) = false := by simpa using gc
  go_wp2_with fail
  refine (exact_any _ (imgOf cs) _ ((unhide B4).has (g := w.heap.size) (by simp) hi)).mono ?_
  rintro e w5 ⟨rfl, hb5⟩
  have B5 := hide ((unhide B4).call hb5)
  clear B4 hb5
  cases gx : (imgOf cs).exact
  case false =>
    go_wp2_with fail
    go_ret
    exact ⟨rfl, (unhide B5).below⟩
  go_wp2_with fail
  refine (fit_any _ _ (imgOf cs) (imgOf ds) _ ((unhide B5).has (g := w.heap.size) (by simp) hi) ((unhide B5).has (g := gd) (by simp) hj)).mono ?_
  rintro e w6 ⟨⟨v, rfl, hfit⟩, hb6⟩
  have B6 := hide ((unhide B5).call hb6)
  clear B5 hb6
  cases v
  case false =>
    go_wp2_with fail
    go_ret
    exact ⟨rfl, (unhide B6).below⟩
  have hend := Img.mends (Img.exact_check gx) (by simpa using gc) (hfit rfl) b
  clear hfit gx gc
  have HE := hide hend
  clear hend
  go_wp2_with fail
  refine (write_any w.heap.size gd (imgOf cs) (imgOf ds) b _ ((unhide B6).has (by simp) hi) ((unhide B6).is (by simp) hj)).mono ?_
  rintro e wx ⟨⟨cx, rfl, hx⟩, hbx⟩
  have Bx0 := hide ((unhide B6).call hbx)
  clear hbx B6
  have sx := hide (heap_alloc_last wx (.cells zeroCells 34))
  have Bx := hide ((unhide Bx0).new cx)
  clear Bx0
  go_wp2_with (first | (have hx9 := unhide sx; refine wpList_store_row rfl 34 _ _ rfl wx.heap.size cx rfl rfl 34 zeroCells hx9 (img_info hx.size) (zero_size hx) hx.all ?_; clear hx9 sx; generalize (wx.alloc (.cells zeroCells 34)).setRow wx.heap.size cx = Xx at Bx ⊢; generalize wx.heap.size = gx at Bx ⊢))
  refine (check_any _ _ _ ((unhide Bx).has (g := gx) (by simp) hx)).mono ?_
  rw [unhide HE]
  rintro e w7 ⟨rfl, hb7⟩
  have B7 := hide ((unhide Bx).call hb7)
  clear Bx hb7
  go_wp2_with fail
  go_ret
  exact ⟨rfl, (unhide B7).below⟩
end Go.Proofs.Ytgipceeheohafaa
