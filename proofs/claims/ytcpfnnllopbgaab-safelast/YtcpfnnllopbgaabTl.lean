/-
  The walk of eiderdownlaw.SafeLast.
-/
import Derived.Test.YtcpfnnllopbgaabTh
import Derived.RegionTactic
import Derived.BigRegion
import Derived.ChangeAlike
namespace Go.Proofs.Ytcpfnnllopbgaab
open Go.RowKit
theorem Boxes.args (w : World) (a b : Array Value) : Boxes w ((w.alloc (.cells a 34)).alloc (.cells b 34)) [(w.heap.size + 1, b), (w.heap.size, a)] := by
  have h := ((Boxes.start w).box a).box b
  have e : (w.alloc (.cells a 34)).heap.size = w.heap.size + 1 := by simp
  rw [e] at h
  exact h
def entC2 (n : ByteArray) (i s : Int) : Array Value := #[.string n, .int .i64 i, .int .i64 s]
structure Pair (w X : World) (l : List (Nat × Array Value)) (g1 g2 : Nat) (a e : Array Value) : Prop where
  boxes : Boxes w X l
  b1 : X.heap[g1]? = some (.cells a 27)
  b2 : X.heap[g2]? = some (.cells e 27)
theorem Pair.ab {w wr : World} {l : List (Nat × Array Value)} (h : Boxes w wr l) (a e : Array Value) : Pair w (((wr.alloc (.cells a 27)).alloc (.cells e 27)).drew) l wr.heap.size (wr.heap.size + 1) a e :=
  ⟨h.call ((((Below.refl _ _).alloc (Nat.le_refl _) _).alloc (by simp) _).drew), heap_alloc2_old wr _ _, heap_alloc2_new wr _ _⟩
theorem Pair.ba {w wr : World} {l : List (Nat × Array Value)} (h : Boxes w wr l) (a e : Array Value) : Pair w (((wr.alloc (.cells e 27)).alloc (.cells a 27)).drew) l (wr.heap.size + 1) wr.heap.size a e :=
  ⟨h.call ((((Below.refl _ _).alloc (Nat.le_refl _) _).alloc (by simp) _).drew), heap_alloc2_new wr _ _, heap_alloc2_old wr _ _⟩
theorem pcell {X : World} {g : Nat} {n : ByteArray} {i s : Int} (h : X.heap[g]? = some (.cells #[.string n, .int .i64 i, .int .i64 s] 27)) : X.cell? ⟨g, 0, none⟩ = some (.string n) ∧ X.cell? ⟨g, 1, none⟩ = some (.int .i64 i) ∧ X.cell? ⟨g, 2, none⟩ = some (.int .i64 s) :=
  ⟨by rw [cell_of_row _ _ _ _ _ _ h]; rfl, by rw [cell_of_row _ _ _ _ _ _ h]; rfl, by rw [cell_of_row _ _ _ _ _ _ h]; rfl⟩
set_option maxRecDepth 100000 in
set_option maxHeartbeats 4000000 in
theorem safeLast_any (cs ds : Array Value) (hk : Kinds cs) (hl : Kinds ds) (b : Int) (w : World) :
    Calls Try.prog 3 #[.agg cs, .agg ds, .int .i64 b] w fun e w' => e = .returned (.bool true) ∧ Below w.heap.size w w' := by
  have hi := hk.isImg
  have hj := hl.isImg
  have z := zero_img.1
  have B0 := hide (Boxes.args w cs ds)
  go_enter Try.func3, Try.ntmps3
  go_wp2_with fail
  generalize (w.alloc (.cells cs 34)).alloc (.cells ds 34) = X0 at B0 ⊢
  generalize w.heap.size + 1 = gd at B0 ⊢
  refine (safeBegun_any _).mono ?_
  rintro e w1 ⟨rfl, hb1⟩
  have B1 := hide ((unhide B0).call hb1)
  clear B0 hb1
  have r1 := hide ((unhide B1).row (w.heap.size, cs) (by simp))
  go_wp2_with (have hx := unhide r1; refine wpList_load_row rfl 34 _ rfl w.heap.size rfl 34 cs (0, 0) _ hx img_under rfl (img_info hi.size) ?_; clear hx r1)
  refine (great_any cs _ hi _).mono ?_
  rintro e w2 ⟨⟨v, rfl⟩, hb2⟩
  have B2 := hide ((unhide B1).call hb2)
  clear B1 hb2
  cases v
  case true =>
    go_wp2_with fail
    go_ret
    exact ⟨rfl, (unhide B2).below⟩
  have r2 := hide ((unhide B2).row (gd, ds) (by simp))
  go_wp2_with (have hx := unhide r2; refine wpList_load_row_g rfl 34 _ rfl gd rfl 34 ds (0, 0) _ hx img_under rfl (img_info hj.size) ?_; clear hx r2)
  refine (great_any ds _ hj _).mono ?_
  rintro e w3 ⟨⟨v, rfl⟩, hb3⟩
  have B3 := hide ((unhide B2).call hb3)
  clear B2 hb3
  cases v
  case true =>
    go_wp2_with fail
    go_ret
    exact ⟨rfl, (unhide B3).below⟩
  go_wp2_with fail
  refine (check_any _ (imgOf ds) _ ((unhide B3).has (g := gd) (by simp) hj)).mono ?_
  rintro e w4 ⟨rfl, hb4⟩
  have B4 := hide ((unhide B3).call hb4)
  clear B3 hb4
  cases gc : (imgOf ds).check == 0
  case false =>
    go_wp2_with fail
    go_ret
    exact ⟨rfl, (unhide B4).below⟩
  go_wp2_with fail
  refine (write_any w.heap.size gd (imgOf cs) (imgOf ds) b _ ((unhide B4).has (by simp) hi) ((unhide B4).is (by simp) hj)).mono ?_
  rintro e wx ⟨⟨cx, rfl, hx⟩, hbx⟩
  have Bx0 := hide ((unhide B4).call hbx)
  clear hbx B4
  have sx := hide (heap_alloc_last wx (.cells zeroCells 34))
  have Bx := hide ((unhide Bx0).new cx)
  clear Bx0
  go_wp2_with (first | (have hx9 := unhide sx; refine wpList_store_row rfl 34 _ _ rfl wx.heap.size cx rfl rfl 34 zeroCells hx9 (img_info hx.size) (zero_size hx) hx.all ?_; clear hx9 sx; generalize (wx.alloc (.cells zeroCells 34)).setRow wx.heap.size cx = Xx at Bx ⊢; generalize wx.heap.size = gx at Bx ⊢))
  go_loopw [9] (fun i wr => ∃ n : Nat, n ≤ 8 ∧ i = .int .i64 n ∧ Boxes w wr ((gx, cx) :: (gd, ds) :: (w.heap.size, cs) :: [])) (fun i _ => 8 - (intOf i).toNat)
  case atStart => exact ⟨0, by omega, rfl, unhide Bx⟩
  case round =>
    clear Bx
    obtain ⟨n, hn, rfl, hB⟩ := hrel
    have Bl := hide hB
    clear hB
    by_cases hlt : n < 8
    · have hK := Img.kept (imgOf cs) (imgOf ds) b n
      have hX := (unhide Bl).has (g := gx) (by simp) hx
      have fl := hX.live n hlt
      have fk := hX.links n hlt
      clear hX
      have C1 := hide (refs_any gd (imgOf ds) (n : Int) _ ((unhide Bl).has (g := gd) (by simp) hj))
      have C2 := hide (refs_any gx (Img.write (imgOf cs) (imgOf ds) b) (n : Int) _ ((unhide Bl).has (g := gx) (by simp) hx))
      have C3 := hide (refs_any w.heap.size (imgOf cs) (n : Int) _ ((unhide Bl).has (g := w.heap.size) (by simp) hi))
      obtain ⟨k1, k2⟩ := hK
      have r1 := (imgOf ds).refs_le (n : Int)
      have r2 := (Img.write (imgOf cs) (imgOf ds) b).refs_le (n : Int)
      have r3 := (imgOf cs).refs_le (n : Int)
      generalize (imgOf ds).refs (n : Int) = A at C1 k1 k2 r1
      generalize (Img.write (imgOf cs) (imgOf ds) b).refs (n : Int) = R at C2 k1 k2 r2
      generalize (imgOf cs).refs (n : Int) = N at C3 k1 r3
      have K1 := hide k1
      have K2 := hide k2
      clear k1 k2
      obtain ⟨a, ha⟩ : ∃ a : Int, a = (A : Int) := ⟨_, rfl⟩
      obtain ⟨r, hr⟩ : ∃ r : Int, r = (R : Int) := ⟨_, rfl⟩
      obtain ⟨m, hm⟩ : ∃ m : Int, m = (N : Int) := ⟨_, rfl⟩
      rw [← ha] at C1
      rw [← hr] at C2 K2
      rw [← hm] at C3
      have HA := hide ha
      have HR := hide hr
      have HM := hide hm
      clear ha hr hm r1 r2 r3
      go_wp2_with fail
      refine (unhide C1).mono ?_
      rintro e wz ⟨rfl, ez⟩
      rw [ez]
      clear ez wz C1
      go_wp2_with fail
      refine (unhide C2).mono ?_
      rintro e wz ⟨rfl, ez⟩
      rw [ez]
      clear ez wz C2
      by_cases a1 : 0 < A
      · have t1 : decide (0 < a) = true := by have := unhide HA; simp; omega
        by_cases a2 : R = 0
        · have t2 : (r == 0) = true := by have := unhide HR; simp; omega
          have a3 : N = 0 := by
            by_cases z : 0 < N
            · have := unhide K1 a1 z; omega
            · omega
          have t3 : decide (0 < m) = false := by have := unhide HM; simp; omega
          have t4 : decide (a < r) = false := by have := unhide HR; have := unhide HA; simp; omega
          clear a1 a2 a3
          go_wp2_with fail
          refine (unhide C3).mono ?_
          rintro e wz ⟨rfl, ez⟩
          rw [ez]
          clear ez wz C3
          go_wp2_with fail
          try (go_quiet (fail); go_wp2_with fail)
          go_roundw
          case rel => exact ⟨n + 1, by omega, by go_num, by first | exact unhide Bl | exact (unhide Bl).draw _⟩
          case measure => simp [intOf]; omega
        · have t2 : (r == 0) = false := by have := unhide HR; simp; omega
          clear a2
          by_cases a4 : A < R
          · have t4 : decide (a < r) = true := by have := unhide HR; have := unhide HA; simp; omega
            have k2 : (Img.write (imgOf cs) (imgOf ds) b).live n = true ∧ r ≤ (Img.write (imgOf cs) (imgOf ds) b).links n := by
              rcases unhide K2 with z | z
              · omega
              · exact z
            rw [k2.1] at fl
            have t5 : decide ((Img.write (imgOf cs) (imgOf ds) b).links n < r) = false := by simp; omega
            clear k2 a1 a4
            go_wp2_with fail
            try (go_quiet (fail); go_wp2_with fail)
            go_roundw
            case rel => exact ⟨n + 1, by omega, by go_num, by first | exact unhide Bl | exact (unhide Bl).draw _⟩
            case measure => simp [intOf]; omega
          · have t4 : decide (a < r) = false := by have := unhide HR; have := unhide HA; simp; omega
            clear a1 a4
            go_wp2_with fail
            try (go_quiet (fail); go_wp2_with fail)
            go_roundw
            case rel => exact ⟨n + 1, by omega, by go_num, by first | exact unhide Bl | exact (unhide Bl).draw _⟩
            case measure => simp [intOf]; omega
      · have t1 : decide (0 < a) = false := by have := unhide HA; simp; omega
        by_cases a4 : A < R
        · have t4 : decide (a < r) = true := by have := unhide HR; have := unhide HA; simp; omega
          have k2 : (Img.write (imgOf cs) (imgOf ds) b).live n = true ∧ r ≤ (Img.write (imgOf cs) (imgOf ds) b).links n := by
            rcases unhide K2 with z | z
            · omega
            · exact z
          rw [k2.1] at fl
          have t5 : decide ((Img.write (imgOf cs) (imgOf ds) b).links n < r) = false := by simp; omega
          clear k2 a1 a4
          go_wp2_with fail
          try (go_quiet (fail); go_wp2_with fail)
          go_roundw
          case rel => exact ⟨n + 1, by omega, by go_num, by first | exact unhide Bl | exact (unhide Bl).draw _⟩
          case measure => simp [intOf]; omega
        · have t4 : decide (a < r) = false := by have := unhide HR; have := unhide HA; simp; omega
          clear a1 a4
          go_wp2_with fail
          try (go_quiet (fail); go_wp2_with fail)
          go_roundw
          case rel => exact ⟨n + 1, by omega, by go_num, by first | exact unhide Bl | exact (unhide Bl).draw _⟩
          case measure => simp [intOf]; omega
    · have t8 : decide ((n : Int) < 8) = false := by simp; omega
      go_wp2_with fail
      go_loopw [12] (fun i wr => ∃ d : Nat, d ≤ 3 ∧ i = .int .i64 d ∧ Boxes w wr ((gx, cx) :: (gd, ds) :: (w.heap.size, cs) :: [])) (fun i _ => 3 - (intOf i).toNat)
      case atStart => exact ⟨0, by omega, rfl, unhide Bl⟩
      case round =>
        clear Bl hlt hn t8
        obtain ⟨d, hd, rfl, hB⟩ := hrel
        have Bl := hide hB
        clear hB
        by_cases hld : d < 3
        · have t3 : decide ((d : Int) < 3) = true := by simp; omega
          go_wp2_with fail
          go_loopw [13] (fun i wr => ∃ s : Nat, s ≤ 4 ∧ i = .int .i64 s ∧ Boxes w wr ((gx, cx) :: (gd, ds) :: (w.heap.size, cs) :: [])) (fun i _ => 4 - (intOf i).toNat)
          case atStart => exact ⟨0, by omega, rfl, unhide Bl⟩
          case round =>
            clear Bl
            obtain ⟨s, hs, rfl, hB⟩ := hrel
            have Bl := hide hB
            clear hB
            by_cases hls : s < 4
            · have hsl := hide (Img.slotLast (imgOf cs) (imgOf ds) b d s hls)
              have t4 : decide ((s : Int) < 4) = true := by simp; omega
              have HD := (unhide Bl).has (g := gd) (by simp) hj
              have HX := (unhide Bl).has (g := gx) (by simp) hx
              have n1 := HD.name d s hld hls
              have i1 := HD.ino d s hld hls
              have s1 := HD.est d s hld hls
              have n2 := HX.name d s hld hls
              have i2 := HX.ino d s hld hls
              have s2 := HX.est d s hld hls
              have ld := HD.lt
              have lx := HX.lt
              clear HD HX
              have PA := hide (Pair.ab (unhide Bl) #[.string ((imgOf ds).name d s), .int .i64 ((imgOf ds).ino d s), .int .i64 ((imgOf ds).est d s)] #[.string ((Img.write (imgOf cs) (imgOf ds) b).name d s), .int .i64 ((Img.write (imgOf cs) (imgOf ds) b).ino d s), .int .i64 ((Img.write (imgOf cs) (imgOf ds) b).est d s)])
              have PB := hide (Pair.ba (unhide Bl) #[.string ((imgOf ds).name d s), .int .i64 ((imgOf ds).ino d s), .int .i64 ((imgOf ds).est d s)] #[.string ((Img.write (imgOf cs) (imgOf ds) b).name d s), .int .i64 ((Img.write (imgOf cs) (imgOf ds) b).ino d s), .int .i64 ((Img.write (imgOf cs) (imgOf ds) b).est d s)])
              go_wp2_with fail
              go_region
              all_goals
                clear n1 i1 s1 n2 i2 s2 ld lx
                first
                  | (clear PB; have HP := PA; clear PA; generalize (((wr.alloc (.cells #[.string ((imgOf ds).name d s), .int .i64 ((imgOf ds).ino d s), .int .i64 ((imgOf ds).est d s)] 27)).alloc (.cells #[.string ((Img.write (imgOf cs) (imgOf ds) b).name d s), .int .i64 ((Img.write (imgOf cs) (imgOf ds) b).ino d s), .int .i64 ((Img.write (imgOf cs) (imgOf ds) b).est d s)] 27)).drew) = X at HP ⊢; generalize wr.heap.size + 1 = g2 at HP ⊢; generalize wr.heap.size = g1 at HP ⊢; clear Bl wr)
                  | (clear PA; have HP := PB; clear PB; generalize (((wr.alloc (.cells #[.string ((Img.write (imgOf cs) (imgOf ds) b).name d s), .int .i64 ((Img.write (imgOf cs) (imgOf ds) b).ino d s), .int .i64 ((Img.write (imgOf cs) (imgOf ds) b).est d s)] 27)).alloc (.cells #[.string ((imgOf ds).name d s), .int .i64 ((imgOf ds).ino d s), .int .i64 ((imgOf ds).est d s)] 27)).drew) = X at HP ⊢; generalize wr.heap.size + 1 = g1 at HP ⊢; generalize wr.heap.size = g2 at HP ⊢; clear Bl wr)
                obtain ⟨c10, c11, c12⟩ := pcell (unhide HP).b1
                obtain ⟨c20, c21, c22⟩ := pcell (unhide HP).b2
                have HN := (unhide HP).boxes.has (g := w.heap.size) (by simp) hi
                have n3 := HN.name d s hld hls
                have i3 := HN.ino d s hld hls
                have s3 := HN.est d s hld hls
                clear HN
                have q1 := neqEnt ((imgOf ds).name d s) ((imgOf ds).ino d s) ((imgOf ds).est d s) ((Img.write (imgOf cs) (imgOf ds) b).name d s) ((Img.write (imgOf cs) (imgOf ds) b).ino d s) ((Img.write (imgOf cs) (imgOf ds) b).est d s)
                cases hse : Img.sameEnt (imgOf ds) (Img.write (imgOf cs) (imgOf ds) b) d s
                · rw [show (((imgOf ds).name d s).toList == ((Img.write (imgOf cs) (imgOf ds) b).name d s).toList && (imgOf ds).ino d s == (Img.write (imgOf cs) (imgOf ds) b).ino d s && (imgOf ds).est d s == (Img.write (imgOf cs) (imgOf ds) b).est d s) = false from hse] at q1
                  cases hem : ((Img.write (imgOf cs) (imgOf ds) b).name d s).toList.isEmpty
                  · have h3 : (Img.write (imgOf cs) (imgOf ds) b).entry d s = (imgOf cs).entry d s ∧ 0 ≤ (Img.write (imgOf cs) (imgOf ds) b).ino d s ∧ (Img.write (imgOf cs) (imgOf ds) b).ino d s < 8 ∧ (imgOf ds).stamp ((Img.write (imgOf cs) (imgOf ds) b).ino d s).toNat = (Img.write (imgOf cs) (imgOf ds) b).est d s := by
                      rcases unhide hsl with z | z | z
                      · rw [Img.sameEnt_of z] at hse; cases hse
                      · unfold Img.named at z; rw [hem] at z; simp at z
                      · exact z
                    have q2 := neqEnt ((Img.write (imgOf cs) (imgOf ds) b).name d s) ((Img.write (imgOf cs) (imgOf ds) b).ino d s) ((Img.write (imgOf cs) (imgOf ds) b).est d s) ((imgOf cs).name d s) ((imgOf cs).ino d s) ((imgOf cs).est d s)
                    rw [show (((Img.write (imgOf cs) (imgOf ds) b).name d s).toList == ((imgOf cs).name d s).toList && (Img.write (imgOf cs) (imgOf ds) b).ino d s == (imgOf cs).ino d s && (Img.write (imgOf cs) (imgOf ds) b).est d s == (imgOf cs).est d s) = true from Img.sameEnt_of h3.1] at q2
                    obtain ⟨ii, hii⟩ := Int.eq_ofNat_of_zero_le h3.2.1
                    have hi8 : ii < 8 := by have := h3.2.2.1; omega
                    have hst := h3.2.2.2
                    rw [hii, Int.toNat_natCast] at hst
                    have fs := ((unhide HP).boxes.has (g := gd) (by simp) hj).stamp ii hi8
                    rw [hst] at fs
                    rw [hii] at c21 q1 q2
                    have u0 : decide ((ii : Int) < 0) = false := by simp
                    have u8 : decide (8 ≤ (ii : Int)) = false := by simp; omega
                    clear h3 hst hii hse hsl
                    go_wp2_with fail
                    try (go_quiet (fail); go_wp2_with fail)
                    go_roundw
                    case rel => exact ⟨s + 1, by omega, by go_num, by first | exact (unhide HP).boxes | exact (unhide HP).boxes.draw _⟩
                    case measure => simp [intOf]; omega
                  · clear hse hsl
                    go_wp2_with fail
                    try (go_quiet (fail); go_wp2_with fail)
                    go_roundw
                    case rel => exact ⟨s + 1, by omega, by go_num, by first | exact (unhide HP).boxes | exact (unhide HP).boxes.draw _⟩
                    case measure => simp [intOf]; omega
                · rw [show (((imgOf ds).name d s).toList == ((Img.write (imgOf cs) (imgOf ds) b).name d s).toList && (imgOf ds).ino d s == (Img.write (imgOf cs) (imgOf ds) b).ino d s && (imgOf ds).est d s == (Img.write (imgOf cs) (imgOf ds) b).est d s) = true from hse] at q1
                  clear hse hsl
                  go_wp2_with fail
                  try (go_quiet (fail); go_wp2_with fail)
                  go_roundw
                  case rel => exact ⟨s + 1, by omega, by go_num, by first | exact (unhide HP).boxes | exact (unhide HP).boxes.draw _⟩
                  case measure => simp [intOf]; omega
            · have t4 : decide ((s : Int) < 4) = false := by simp; omega
              go_wp2_with fail
              go_roundw
              case rel => exact ⟨d + 1, by omega, by go_num, unhide Bl⟩
              case measure => simp [intOf]; omega
        · have t3 : decide ((d : Int) < 3) = false := by simp; omega
          go_wp2_with fail
          go_ret
          exact ⟨rfl, (unhide Bl).below⟩
end Go.Proofs.Ytcpfnnllopbgaab
