/-
  The walk of eiderdownlaw.CacheFree.
-/
import Derived.Test.YtgipceeheohafabCk
namespace Go.Proofs.Ytgipceeheohafab
open Go.RowKit
theorem Bx.args (w : World) (a b : Array Value) : Bx w ((w.alloc (.cells a 34)).alloc (.cells b 34)) [(w.heap.size + 1, b, 34), (w.heap.size, a, 34)] := by
  have h := ((Bx.start w).box a 34).box b 34
  have e : (w.alloc (.cells a 34)).heap.size = w.heap.size + 1 := by simp
  rw [e] at h
  exact h
theorem free_no {p : Nat → Bool} {n k : Nat} {f : Int} (hf : f = Img.firstI p n) (hk : k < n) (h : p k = false) : ((k : Int) == f) = false := by
  have h1 := ((Img.first_free (p := p) (n := n)).2.2 k hk).1
  simp only [beq_eq_false_iff_ne, ne_eq]
  intro e
  rw [hf] at e
  rw [h1 e] at h; cases h
theorem free_yes {p : Nat → Bool} {n k : Nat} {f : Int} (hf : f = Img.firstI p n) (hk : k < n) (h : p k = true) : decide (f < 0) = false ∧ decide ((k : Int) < f) = false := by
  have h1 := ((Img.first_free (p := p) (n := n)).2.2 k hk).2 h
  rw [hf]
  simp; omega
theorem free_bounds {p : Nat → Bool} {n : Nat} {f : Int} (hf : f = Img.firstI p n) : -1 ≤ f ∧ f < n := by
  rw [hf]; exact ⟨(Img.first_free (p := p) (n := n)).1, (Img.first_free (p := p) (n := n)).2.1⟩
theorem slot_bounds {m k : Img} {d f : Int} (hf : f = Img.freeSlot m k d) : -1 ≤ f ∧ f < 4 := by
  rw [hf]
  unfold Img.freeSlot
  split
  · exact free_bounds rfl
  · omega
set_option maxRecDepth 100000 in
set_option maxHeartbeats 4000000 in
theorem cacheFree_any (ds cs : Array Value) (hl : Kinds ds) (hk : Kinds cs) (d : Int) (w : World) :
    Calls Try.prog 7 #[.agg ds, .agg cs, .int .i64 d] w fun e w' => e = .returned (.bool true) ∧ Below w.heap.size w w' := by
  have hi := hk.isImg
  have hj := hl.isImg
  have z1 := hi.size
  have z2 := hj.size
  have B0 := hide (Bx.args w ds cs)
  go_enter Try.func7, Try.ntmps7
  go_wp2_with fail
  generalize (w.alloc (.cells ds 34)).alloc (.cells cs 34) = X0 at B0 ⊢
  generalize w.heap.size + 1 = gn at B0 ⊢
  refine (cacheBegun_any _).mono ?_
  rintro e w1 ⟨rfl, hb1⟩
  have B1 := hide ((unhide B0).call hb1)
  clear B0 hb1
  have r1 := hide ((unhide B1).row (gn, cs, 34) (by simp))
  go_wp2_with (have hx := unhide r1; refine wpList_load_row rfl 34 _ rfl gn rfl 34 cs (0, 0) _ hx img_under rfl (img_info hi.size) ?_; clear hx r1)
  refine (great_any cs _ hi _).mono ?_
  rintro e w2 ⟨⟨v, rfl⟩, hb2⟩
  have B2 := hide ((unhide B1).call hb2)
  clear B1 hb2
  cases v
  case true =>
    go_wp2_with fail
    go_ret
    exact ⟨rfl, (unhide B2).below⟩
  have r2 := hide ((unhide B2).row (w.heap.size, ds, 34) (by simp))
  go_wp2_with (have hx := unhide r2; refine wpList_load_row_g rfl 34 _ rfl w.heap.size rfl 34 ds (0, 0) _ hx img_under rfl (img_info hj.size) ?_; clear hx r2)
  refine (great_any ds _ hj _).mono ?_
  rintro e w3 ⟨⟨v, rfl⟩, hb3⟩
  have B3 := hide ((unhide B2).call hb3)
  clear B2 hb3
  cases v
  case true =>
    go_wp2_with fail
    go_ret
    exact ⟨rfl, (unhide B3).below⟩
  have r3 := hide ((unhide B3).row (w.heap.size, ds, 34) (by simp))
  go_wp2_with (have hx := unhide r3; refine wpList_load_row rfl 34 _ rfl w.heap.size rfl 34 ds (0, 0) _ hx img_under rfl (img_info hj.size) ?_; clear hx r3)
  refine (of_any ds _ hj _).mono ?_
  rintro e w4 ⟨ho, hb4⟩
  rcases ho with ⟨hck, gc, rfl, hgc, hrc⟩ | ⟨hck, rfl⟩
  case inr =>
    have B4 := hide ((unhide B3).call hb4)
    clear B3 hb4
    go_wp2_with fail
    refine (fault_any w.heap.size _ _ ((unhide B4).has (by simp) hj)).mono ?_
    rintro e w5 ⟨⟨c, rfl, hc⟩, hb5⟩
    have B5 := hide ((unhide B4).call hb5)
    clear B4 hb5
    have c0 : (c != 0) = true := by
      have : c ≠ 0 := fun z => hck (hc.1 z)
      simpa using this
    clear hc hck
    go_wp2_with fail
    go_ret
    exact ⟨rfl, (unhide B5).below⟩
  clear hck
  have B4 := hide ((unhide B3).add hb4 hgc hrc)
  clear B3 hb4 hgc hrc
  have hgl := (unhide B4).hi (p := (gc, ds ++ ds, 51)) (by simp)
  have r4 := hide ((unhide B4).row (gn, cs, 34) (by simp))
  have r5 := hide ((unhide B4).row (gc, ds ++ ds, 51) (by simp))
  have B5 := hide ((unhide B4).mut0 (Mut.of (Below.refl _ w4) hgl (c' := cs ++ ds) rfl ((unhide B4).row (gc, ds ++ ds, 51) (by simp))))
  have hsp : splice (ds ++ ds) 0 cs = cs ++ ds := splice_fst z2 z1
  have hle : 0 + cs.size ≤ (ds ++ ds).size := by simp; omega
  clear B4
  go_wp2_with (first | (have hx := unhide r4; refine wpList_load_row rfl 34 _ rfl gn rfl 34 cs (0, 0) _ hx img_under rfl (img_info hi.size) ?_; clear hx r4) | (have hx := unhide r5; refine wpList_store_part rfl 34 _ _ rfl gc 0 cs rfl rfl 51 (ds ++ ds) hx (img_info hi.size) hle hi.all ?_; clear hx r5; rw [hsp]; generalize w4.setRow gc (cs ++ ds) = X5 at B5 ⊢))
  refine (cInode_any gc cs ds (imgOf cs) (imgOf ds) hi hj _ ((unhide B5).row (gc, cs ++ ds, 51) (by simp))).mono ?_
  rintro e w6 ⟨rfl, hb6⟩
  have B6 := hide ((unhide B5).call hb6)
  clear B5 hb6
  obtain ⟨fi, hfi⟩ : ∃ fi, fi = Img.freeIno (imgOf cs) (imgOf ds) := ⟨_, rfl⟩
  rw [← hfi]
  have HFI := hide (show fi = Img.firstI (fun n => !(imgOf cs).live n && ((imgOf ds).refs (n : Int) == 0)) 8 from hfi)
  clear hfi
  go_wp2_with fail
  refine (cSlot_any gc cs ds (imgOf cs) (imgOf ds) hi hj d _ ((unhide B6).row (gc, cs ++ ds, 51) (by simp))).mono ?_
  rintro e w7 ⟨rfl, hb7⟩
  have B7 := hide ((unhide B6).call hb7)
  clear B6 hb7
  obtain ⟨fs, hfs⟩ : ∃ fs, fs = Img.freeSlot (imgOf cs) (imgOf ds) d := ⟨_, rfl⟩
  rw [← hfs]
  have HFS := hide hfs
  clear hfs
  go_wp2_with fail
  refine (cData_any gc cs ds (imgOf cs) (imgOf ds) hi hj _ ((unhide B7).row (gc, cs ++ ds, 51) (by simp))).mono ?_
  rintro e w8 ⟨rfl, hb8⟩
  have B8 := hide ((unhide B7).call hb8)
  clear B7 hb8
  obtain ⟨fd, hfd⟩ : ∃ fd, fd = Img.freeData (imgOf cs) (imgOf ds) := ⟨_, rfl⟩
  rw [← hfd]
  have HFD := hide (show fd = Img.firstI (fun x => !(imgOf cs).holds (x : Int) && !(imgOf ds).holds (x : Int)) 9 from hfd)
  clear hfd
  have bi := free_bounds (unhide HFI)
  have bs := slot_bounds (unhide HFS)
  have bd := free_bounds (unhide HFD)
  have t1 : decide (fi < -1) = false := by simp; omega
  have t2 : decide (8 ≤ fi) = false := by simp; omega
  have t2' : decide (fi ≥ 8) = false := by simp; omega
  have t3 : decide (fs < -1) = false := by simp; omega
  have t4 : decide (4 ≤ fs) = false := by simp; omega
  have t4' : decide (fs ≥ 4) = false := by simp; omega
  have t5 : decide (fd < -1) = false := by simp; omega
  have t6 : decide (9 ≤ fd) = false := by simp; omega
  have t6' : decide (fd ≥ 9) = false := by simp; omega
  clear bi bs bd
  go_wp2_with fail
  clear t1 t2 t2' t3 t4 t4' t5 t6 t6'
  go_loopw [11] (fun i wr => ∃ k : Nat, k ≤ 8 ∧ i = .int .i64 k ∧ Hid (Bx w wr ((gc, cs ++ ds, 51) :: (gn, cs, 34) :: (w.heap.size, ds, 34) :: []))) (fun i _ => 8 - (intOf i).toNat)
  case atStart => exact ⟨0, by omega, rfl, B8⟩
  case round =>
    clear B8
    obtain ⟨k, hk8, rfl, B8⟩ := hrel
    by_cases hlt : k < 8
    · have u8 : decide ((k : Int) < 8) = true := by simp; omega
      have fl := ((unhide B8).has (g := gn) (by simp) hi).live k hlt
      have CL := hide (rLeads_any w.heap.size (imgOf ds) (k : Int) _ ((unhide B8).has (g := w.heap.size) (by simp) hj))
      have NO := hide (fun h => free_no (k := k) (unhide HFI) hlt h)
      have YES := hide (fun h => free_yes (k := k) (unhide HFI) hlt h)
      cases h1 : (imgOf cs).live k
      · rw [h1] at fl
        cases h2 : ((imgOf ds).refs (k : Int) == 0)
        · have e1 := unhide NO (by simp only [h1, h2]; rfl)
          have h3 : (((imgOf ds).refs (k : Int) : Nat) : Int) ≠ 0 := by simp at h2; omega
          generalize (((imgOf ds).refs (k : Int) : Nat) : Int) = rr at CL h3
          have h4 : (rr == 0) = false := by simpa using h3
          clear h2 h3 NO YES
          go_wp2_with fail
          refine (unhide CL).mono ?_
          rintro e wz ⟨rfl, ez⟩
          rw [ez]
          clear ez wz CL
          go_wp2_with fail
          go_roundw
          case rel => exact ⟨k + 1, by omega, by go_num, B8⟩
          case measure => simp [intOf]; omega
        · obtain ⟨e1, e2⟩ := unhide YES (by simp only [h1, h2]; rfl)
          have h3 : (imgOf ds).refs (k : Int) = 0 := by simpa using h2
          rw [h3] at CL
          clear h2 h3 NO YES
          cases e3 : ((k : Int) == fi)
          all_goals
            go_wp2_with fail
            refine (unhide CL).mono ?_
            rintro e wz ⟨rfl, ez⟩
            rw [ez]
            clear ez wz CL
            go_wp2_with fail
            go_roundw
            case rel => exact ⟨k + 1, by omega, by go_num, B8⟩
            case measure => simp [intOf]; omega
      · rw [h1] at fl
        have e1 := unhide NO (by simp only [h1]; rfl)
        clear NO YES CL
        go_wp2_with fail
        go_roundw
        case rel => exact ⟨k + 1, by omega, by go_num, B8⟩
        case measure => simp [intOf]; omega
    · have u8 : decide ((k : Int) < 8) = false := by simp; omega
      go_wp2_with fail
      go_loopw [13] (fun i wr => ∃ k : Nat, k ≤ 4 ∧ i = .int .i64 k ∧ Hid (Bx w wr ((gc, cs ++ ds, 51) :: (gn, cs, 34) :: (w.heap.size, ds, 34) :: []))) (fun i _ => 4 - (intOf i).toNat)
      case atStart => exact ⟨0, by omega, rfl, B8⟩
      case round =>
        clear B8
        obtain ⟨k, hk4, rfl, B8⟩ := hrel
        by_cases hgo : k < 4 ∧ 0 ≤ d ∧ d < 3
        · obtain ⟨hlk, hd0, hd3⟩ := hgo
          obtain ⟨e, rfl⟩ := Int.eq_ofNat_of_zero_le hd0
          have he : e < 3 := by omega
          have HF2 := hide (show fs = Img.firstI (fun s => !(imgOf cs).named e s && !(imgOf ds).named e s) 4 from by rw [unhide HFS]; unfold Img.freeSlot; rw [if_pos ⟨hd0, hd3⟩, Int.toNat_natCast])
          have u4 : decide ((k : Int) < 4) = true := by simp; omega
          have u0 : decide (0 ≤ (e : Int)) = true := by simp
          have u0' : decide ((e : Int) ≥ 0) = true := by simp
          have u3 : decide ((e : Int) < 3) = true := by simp; omega
          have n1 := ((unhide B8).has (g := gn) (by simp) hi).name e k he hlk
          have n2 := ((unhide B8).has (g := w.heap.size) (by simp) hj).name e k he hlk
          have NO := hide (fun h => free_no (k := k) (unhide HF2) hlk h)
          have YES := hide (fun h => free_yes (k := k) (unhide HF2) hlk h)
          have E1 := hide (show (imgOf cs).named e k = !((imgOf cs).name e k).toList.isEmpty from rfl)
          have E2 := hide (show (imgOf ds).named e k = !((imgOf ds).name e k).toList.isEmpty from rfl)
          clear hd0 hd3
          cases h1 : ((imgOf cs).name e k).toList.isEmpty
          · have e1 := unhide NO (by simp only [unhide E1, h1]; rfl)
            clear NO YES
            go_wp2_with fail
            go_roundw
            case rel => exact ⟨k + 1, by omega, by go_num, B8⟩
            case measure => simp [intOf]; omega
          · cases h2 : ((imgOf ds).name e k).toList.isEmpty
            · have e1 := unhide NO (by simp only [unhide E1, unhide E2, h1, h2]; rfl)
              clear NO YES
              go_wp2_with fail
              go_roundw
              case rel => exact ⟨k + 1, by omega, by go_num, B8⟩
              case measure => simp [intOf]; omega
            · obtain ⟨e1, e2⟩ := unhide YES (by simp only [unhide E1, unhide E2, h1, h2]; rfl)
              clear NO YES
              cases e3 : ((k : Int) == fs)
              all_goals
                go_wp2_with fail
                go_roundw
                case rel => exact ⟨k + 1, by omega, by go_num, B8⟩
                case measure => simp [intOf]; omega
        · have HX := hide hgo
          clear hgo
          by_cases c4 : k < 4
          · have u4 : decide ((k : Int) < 4) = true := by simp; omega
            by_cases c0 : 0 ≤ d
            · have u0 : decide (0 ≤ d) = true := by simpa using c0
              have u0' : decide (d ≥ 0) = true := by simpa using c0
              have u3 : decide (d < 3) = false := by
                have := unhide HX
                simp; omega
              clear c0 c4 HX
              go_wp2_with fail
              go_loopw [15] (fun i wr => ∃ k : Nat, k ≤ 9 ∧ i = .int .i64 k ∧ Hid (Bx w wr ((gc, cs ++ ds, 51) :: (gn, cs, 34) :: (w.heap.size, ds, 34) :: []))) (fun i _ => 9 - (intOf i).toNat)
              case atStart => exact ⟨0, by omega, rfl, B8⟩
              case round =>
                clear B8
                obtain ⟨k, hk9, rfl, B8⟩ := hrel
                by_cases hlt : k < 9
                · have u9 : decide ((k : Int) < 9) = true := by simp; omega
                  have C1 := hide (rHeld_any gn (imgOf cs) (k : Int) _ ((unhide B8).has (g := gn) (by simp) hi).at)
                  have C2 := hide (rHeld_any w.heap.size (imgOf ds) (k : Int) _ ((unhide B8).has (g := w.heap.size) (by simp) hj).at)
                  rw [Img.held_isD hlt] at C1 C2
                  have NO := hide (fun h => free_no (k := k) (unhide HFD) hlt h)
                  have YES := hide (fun h => free_yes (k := k) (unhide HFD) hlt h)
                  cases h1 : (imgOf cs).holds (k : Int)
                  · rw [h1] at C1
                    cases h2 : (imgOf ds).holds (k : Int)
                    · rw [h2] at C2
                      obtain ⟨e1, e2⟩ := unhide YES (by simp only [h1, h2]; rfl)
                      clear NO YES
                      cases e3 : ((k : Int) == fd)
                      all_goals
                        go_wp2_with fail
                        refine (unhide C1).mono ?_
                        rintro e wz ⟨rfl, ez⟩
                        rw [ez]
                        clear ez wz C1
                        go_wp2_with fail
                        refine (unhide C2).mono ?_
                        rintro e wz ⟨rfl, ez⟩
                        rw [ez]
                        clear ez wz C2
                        go_wp2_with fail
                        go_roundw
                        case rel => exact ⟨k + 1, by omega, by go_num, B8⟩
                        case measure => simp [intOf]; omega
                    · rw [h2] at C2
                      have e1 := unhide NO (by simp only [h1, h2]; rfl)
                      clear NO YES
                      go_wp2_with fail
                      refine (unhide C1).mono ?_
                      rintro e wz ⟨rfl, ez⟩
                      rw [ez]
                      clear ez wz C1
                      go_wp2_with fail
                      refine (unhide C2).mono ?_
                      rintro e wz ⟨rfl, ez⟩
                      rw [ez]
                      clear ez wz C2
                      go_wp2_with fail
                      go_roundw
                      case rel => exact ⟨k + 1, by omega, by go_num, B8⟩
                      case measure => simp [intOf]; omega
                  · rw [h1] at C1
                    have e1 := unhide NO (by simp only [h1]; rfl)
                    clear NO YES
                    go_wp2_with fail
                    refine (unhide C1).mono ?_
                    rintro e wz ⟨rfl, ez⟩
                    rw [ez]
                    clear ez wz C1
                    go_wp2_with fail
                    go_roundw
                    case rel => exact ⟨k + 1, by omega, by go_num, B8⟩
                    case measure => simp [intOf]; omega
                · have u9 : decide ((k : Int) < 9) = false := by simp; omega
                  go_wp2_with fail
                  go_ret
                  exact ⟨rfl, (unhide B8).below⟩
            · have u0 : decide (0 ≤ d) = false := by simpa using c0
              have u0' : decide (d ≥ 0) = false := by simpa using c0
              clear c0 c4 HX
              go_wp2_with fail
              go_loopw [15] (fun i wr => ∃ k : Nat, k ≤ 9 ∧ i = .int .i64 k ∧ Hid (Bx w wr ((gc, cs ++ ds, 51) :: (gn, cs, 34) :: (w.heap.size, ds, 34) :: []))) (fun i _ => 9 - (intOf i).toNat)
              case atStart => exact ⟨0, by omega, rfl, B8⟩
              case round =>
                clear B8
                obtain ⟨k, hk9, rfl, B8⟩ := hrel
                by_cases hlt : k < 9
                · have u9 : decide ((k : Int) < 9) = true := by simp; omega
                  have C1 := hide (rHeld_any gn (imgOf cs) (k : Int) _ ((unhide B8).has (g := gn) (by simp) hi).at)
                  have C2 := hide (rHeld_any w.heap.size (imgOf ds) (k : Int) _ ((unhide B8).has (g := w.heap.size) (by simp) hj).at)
                  rw [Img.held_isD hlt] at C1 C2
                  have NO := hide (fun h => free_no (k := k) (unhide HFD) hlt h)
                  have YES := hide (fun h => free_yes (k := k) (unhide HFD) hlt h)
                  cases h1 : (imgOf cs).holds (k : Int)
                  · rw [h1] at C1
                    cases h2 : (imgOf ds).holds (k : Int)
                    · rw [h2] at C2
                      obtain ⟨e1, e2⟩ := unhide YES (by simp only [h1, h2]; rfl)
                      clear NO YES
                      cases e3 : ((k : Int) == fd)
                      all_goals
                        go_wp2_with fail
                        refine (unhide C1).mono ?_
                        rintro e wz ⟨rfl, ez⟩
                        rw [ez]
                        clear ez wz C1
                        go_wp2_with fail
                        refine (unhide C2).mono ?_
                        rintro e wz ⟨rfl, ez⟩
                        rw [ez]
                        clear ez wz C2
                        go_wp2_with fail
                        go_roundw
                        case rel => exact ⟨k + 1, by omega, by go_num, B8⟩
                        case measure => simp [intOf]; omega
                    · rw [h2] at C2
                      have e1 := unhide NO (by simp only [h1, h2]; rfl)
                      clear NO YES
                      go_wp2_with fail
                      refine (unhide C1).mono ?_
                      rintro e wz ⟨rfl, ez⟩
                      rw [ez]
                      clear ez wz C1
                      go_wp2_with fail
                      refine (unhide C2).mono ?_
                      rintro e wz ⟨rfl, ez⟩
                      rw [ez]
                      clear ez wz C2
                      go_wp2_with fail
                      go_roundw
                      case rel => exact ⟨k + 1, by omega, by go_num, B8⟩
                      case measure => simp [intOf]; omega
                  · rw [h1] at C1
                    have e1 := unhide NO (by simp only [h1]; rfl)
                    clear NO YES
                    go_wp2_with fail
                    refine (unhide C1).mono ?_
                    rintro e wz ⟨rfl, ez⟩
                    rw [ez]
                    clear ez wz C1
                    go_wp2_with fail
                    go_roundw
                    case rel => exact ⟨k + 1, by omega, by go_num, B8⟩
                    case measure => simp [intOf]; omega
                · have u9 : decide ((k : Int) < 9) = false := by simp; omega
                  go_wp2_with fail
                  go_ret
                  exact ⟨rfl, (unhide B8).below⟩
          · have u4 : decide ((k : Int) < 4) = false := by simp; omega
            clear c4 HX
            go_wp2_with fail
            go_loopw [15] (fun i wr => ∃ k : Nat, k ≤ 9 ∧ i = .int .i64 k ∧ Hid (Bx w wr ((gc, cs ++ ds, 51) :: (gn, cs, 34) :: (w.heap.size, ds, 34) :: []))) (fun i _ => 9 - (intOf i).toNat)
            case atStart => exact ⟨0, by omega, rfl, B8⟩
            case round =>
              clear B8
              obtain ⟨k, hk9, rfl, B8⟩ := hrel
              by_cases hlt : k < 9
              · have u9 : decide ((k : Int) < 9) = true := by simp; omega
                have C1 := hide (rHeld_any gn (imgOf cs) (k : Int) _ ((unhide B8).has (g := gn) (by simp) hi).at)
                have C2 := hide (rHeld_any w.heap.size (imgOf ds) (k : Int) _ ((unhide B8).has (g := w.heap.size) (by simp) hj).at)
                rw [Img.held_isD hlt] at C1 C2
                have NO := hide (fun h => free_no (k := k) (unhide HFD) hlt h)
                have YES := hide (fun h => free_yes (k := k) (unhide HFD) hlt h)
                cases h1 : (imgOf cs).holds (k : Int)
                · rw [h1] at C1
                  cases h2 : (imgOf ds).holds (k : Int)
                  · rw [h2] at C2
                    obtain ⟨e1, e2⟩ := unhide YES (by simp only [h1, h2]; rfl)
                    clear NO YES
                    cases e3 : ((k : Int) == fd)
                    all_goals
                      go_wp2_with fail
                      refine (unhide C1).mono ?_
                      rintro e wz ⟨rfl, ez⟩
                      rw [ez]
                      clear ez wz C1
                      go_wp2_with fail
                      refine (unhide C2).mono ?_
                      rintro e wz ⟨rfl, ez⟩
                      rw [ez]
                      clear ez wz C2
                      go_wp2_with fail
                      go_roundw
                      case rel => exact ⟨k + 1, by omega, by go_num, B8⟩
                      case measure => simp [intOf]; omega
                  · rw [h2] at C2
                    have e1 := unhide NO (by simp only [h1, h2]; rfl)
                    clear NO YES
                    go_wp2_with fail
                    refine (unhide C1).mono ?_
                    rintro e wz ⟨rfl, ez⟩
                    rw [ez]
                    clear ez wz C1
                    go_wp2_with fail
                    refine (unhide C2).mono ?_
                    rintro e wz ⟨rfl, ez⟩
                    rw [ez]
                    clear ez wz C2
                    go_wp2_with fail
                    go_roundw
                    case rel => exact ⟨k + 1, by omega, by go_num, B8⟩
                    case measure => simp [intOf]; omega
                · rw [h1] at C1
                  have e1 := unhide NO (by simp only [h1]; rfl)
                  clear NO YES
                  go_wp2_with fail
                  refine (unhide C1).mono ?_
                  rintro e wz ⟨rfl, ez⟩
                  rw [ez]
                  clear ez wz C1
                  go_wp2_with fail
                  go_roundw
                  case rel => exact ⟨k + 1, by omega, by go_num, B8⟩
                  case measure => simp [intOf]; omega
              · have u9 : decide ((k : Int) < 9) = false := by simp; omega
                go_wp2_with fail
                go_ret
                exact ⟨rfl, (unhide B8).below⟩
end Go.Proofs.Ytgipceeheohafab
