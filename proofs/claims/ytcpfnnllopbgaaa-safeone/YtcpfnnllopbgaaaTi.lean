/-
  The walk of eiderdownlaw.SafeUnion.
-/
import Derived.Test.YtcpfnnllopbgaaaTh
namespace Go.Proofs.Ytcpfnnllopbgaaa
open Go.RowKit
theorem Boxes.args (w : World) (a b : Array Value) : Boxes w ((w.alloc (.cells a 34)).alloc (.cells b 34)) [(w.heap.size + 1, b), (w.heap.size, a)] := by
  have h := ((Boxes.start w).box a).box b
  have e : (w.alloc (.cells a 34)).heap.size = w.heap.size + 1 := by simp
  rw [e] at h
  exact h
set_option maxRecDepth 100000 in
set_option maxHeartbeats 4000000 in
theorem safeUnion_any (cs ds : Array Value) (hk : Kinds cs) (hl : Kinds ds) (n : Int) (w : World) :
    Calls Try.prog 13 #[.agg cs, .agg ds, .int .i64 n] w fun e w' => e = .returned (.bool true) ∧ Below w.heap.size w w' := by
  have hi := hk.isImg
  have hj := hl.isImg
  have B0 := hide (Boxes.args w cs ds)
  go_enter Try.func13, Try.ntmps13
  go_wp2_with fail
  generalize (w.alloc (.cells cs 34)).alloc (.cells ds 34) = X0 at B0 ⊢
  generalize w.heap.size + 1 = gd at B0 ⊢
  refine (safeBegun_any _).mono ?_
  rintro e w1 ⟨rfl, hb1⟩
  have B1 := hide ((unhide B0).call hb1)
  clear B0 hb1
  have r1 := hide ((unhide B1).row (w.heap.size, cs) (by simp))
  go_wp2_with (have hx := unhide r1; refine wpList_load_row rfl 34 _ rfl w.heap.size rfl 34 cs (0, 0) _ hx img_under rfl (img_info hi.size) ?_; clear hx r1)
  refine (great_any cs _ hi _).mono ?_
  rintro e w2 ⟨⟨v, rfl⟩, hb2⟩
  have B2 := hide ((unhide B1).call hb2)
  clear B1 hb2
  cases v
  case true =>
    go_wp2_with fail
    go_ret
    exact ⟨rfl, (unhide B2).below⟩
  have r2 := hide ((unhide B2).row (gd, ds) (by simp))
  go_wp2_with (have hx := unhide r2; refine wpList_load_row_g rfl 34 _ rfl gd rfl 34 ds (0, 0) _ hx img_under rfl (img_info hj.size) ?_; clear hx r2)
  refine (great_any ds _ hj _).mono ?_
  rintro e w3 ⟨⟨v, rfl⟩, hb3⟩
  have B3 := hide ((unhide B2).call hb3)
  clear B2 hb3
  cases v
  case true =>
    go_wp2_with fail
    go_ret
    exact ⟨rfl, (unhide B3).below⟩
  have hu := Img.uni_bounds (imgOf cs) (imgOf ds) n
  have hc := hide (Img.uni_comm (imgOf ds) (imgOf cs) n)
  have hs := hide (Img.uni_self (imgOf cs) n)
  have hle := Img.uni_le (imgOf cs) (imgOf ds) n
  have H1 := hide ((unhide B3).has (g := w.heap.size) (by simp) hi)
  have H2 := hide ((unhide B3).has (g := gd) (by simp) hj)
  go_wp2_with fail
  refine (union_any _ _ _ _ n _ (unhide H1) (unhide H2)).mono ?_
  rintro e wz ⟨rfl, ez⟩
  rw [ez]
  clear ez wz
  go_wp2_with fail
  refine (refs_any _ _ n _ (unhide H1)).mono ?_
  rintro e wz ⟨rfl, ez⟩
  rw [ez]
  clear ez wz
  go_wp2_with fail
  refine (refs_any _ _ n _ (unhide H2)).mono ?_
  rintro e wz ⟨rfl, ez⟩
  rw [ez]
  clear ez wz
  have C3 := hide ((union_any _ _ _ _ n _ (unhide H2) (unhide H1)))
  have C4 := hide ((union_any _ _ _ _ n _ (unhide H1) (unhide H1)))
  rw [unhide hc] at C3
  rw [unhide hs] at C4
  clear hc hs
  generalize Img.uni (imgOf cs) (imgOf ds) n = U at hu hle C3 ⊢
  generalize (imgOf cs).refs n = A at hu C4 ⊢
  generalize (imgOf ds).refs n = B at hu ⊢
  obtain ⟨u1, u2, u3⟩ := hu
  have t1 : decide ((A : Int) ≤ (U : Int)) = true := by simp; omega
  have t2 : decide ((B : Int) ≤ (U : Int)) = true := by simp; omega
  have t3 : decide ((U : Int) ≤ (A : Int) + (B : Int)) = true := by simp; omega
  go_wp2_with fail
  refine (unhide C3).mono ?_
  rintro e wz ⟨rfl, ez⟩
  rw [ez]
  clear ez wz
  go_wp2_with fail
  refine (unhide C4).mono ?_
  rintro e wz ⟨rfl, ez⟩
  rw [ez]
  clear ez wz
  go_wp2_with fail
  go_ret
  exact ⟨rfl, (unhide B3).below⟩
end Go.Proofs.Ytcpfnnllopbgaaa
