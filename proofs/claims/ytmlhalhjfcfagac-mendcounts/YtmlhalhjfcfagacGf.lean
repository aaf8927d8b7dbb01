/-
  The law MendCounts: its walk. (Written by gengf.py.)
-/
import Derived.Test.YtmlhalhjfcfagacGe
namespace Go.Proofs.Ytmlhalhjfcfagac
open Go.RowKit
set_option maxRecDepth 100000 in
set_option maxHeartbeats 8000000 in
theorem mendCounts_any (cs : Array Value) (hk : Kinds cs) (w : World) :
    Calls Try.prog 3 #[.agg cs] w fun e w' => e = .returned (.bool true) ∧ Below w.heap.size w w' := by
  have hi := hk.isImg
  have z := zero_img.1
  have bz := build_img
  have zz := zero_sz
  have B0 := hide ((By.start w).box cs 34)
  go_enter Try.func3, Try.ntmps3
  go_wp2_with fail
  generalize w.alloc (.cells cs 34) = X0 at B0 ⊢
  generalize w.heap.size = g1 at B0 ⊢
  refine (mendBegun_any _).mono ?_
  rintro e w1 ⟨rfl, hb1⟩
  have B1 := hide ((unhide B0).call hb1)
  clear B0 hb1
  have r1 := hide ((unhide B1).row (g1, cs, 34) (List.mem_cons_self ..))
  go_wp2_with (have hx := unhide r1; refine wpList_load_row rfl 34 _ rfl g1 rfl 34 cs (0, 0) _ hx img_under rfl (img_info hi.size) ?_; clear hx r1)
  refine (great_any cs _ hi _).mono ?_
  rintro e w2 ⟨⟨v, rfl⟩, hb2⟩
  have B2 := hide ((unhide B1).call hb2)
  clear B1 hb2
  cases v
  case true =>
    go_wp2_with fail
    go_ret
    exact ⟨rfl, (unhide B2).below⟩
  have r2 := hide ((unhide B2).row (g1, cs, 34) (List.mem_cons_self ..))
  go_wp2_with (have hx := unhide r2; refine wpList_load_row rfl 34 _ rfl g1 rfl 34 cs (0, 0) _ hx img_under rfl (img_info hi.size) ?_; clear hx r2)
  refine (mend_any cs _ hi _).mono ?_
  rintro e w3 ⟨hme, hb3⟩
  have B3 := hide ((unhide B2).call hb3)
  clear B2 hb3
  rcases hme with ⟨hc, c3, i3, rfl⟩ | ⟨hc, rfl⟩
  case inr =>
    have hcn : ((imgOf cs).check != 0) = true := by simpa using hc
    have QL := eqLost 0 0 0 0 0 0
    unfold lostA at QL ⊢
    generalize (imgOf cs).check = cd at hcn ⊢
    have B4 := hide ((unhide B3).pair zeroCells (.int .i64 0) (.int .i64 0) (.int .i64 0))
    have T2 := two2 w3 zeroCells
    have s1 := hide T2.r0
    have c0 := T2.cells 0 (by omega)
    have c1 := T2.cells 1 (by omega)
    have c2 := T2.cells 2 (by omega)
    have fz := T2.fz
    clear T2 B3
    go_wp2_with (have hx := unhide s1; refine wpList_store_row rfl 34 _ _ rfl w3.heap.size zeroCells rfl rfl 34 zeroCells hx (img_info zz) (rfl) (zero_kinds'.isImg.all) ?_; clear hx s1; generalize ((w3.alloc (.cells zeroCells 34)).alloc (.cells #[.int .i64 0, .int .i64 0, .int .i64 0] 38)).setRow w3.heap.size zeroCells = Yw3 at B4 c0 c1 c2 fz ⊢)
    go_ret
    exact ⟨rfl, (unhide B4).below⟩
  case inl =>
    obtain ⟨m, em⟩ : ∃ m, m = imgOf cs := ⟨_, rfl⟩
    rw [← em] at hc hi i3 ⊢
    clear em hk
    unfold lostA
    have HC := hide hc
    clear hc
    have z3 := i3.size
    obtain ⟨nf, ef⟩ : ∃ n : Int, n = (Img.lostF m : Nat) := ⟨_, rfl⟩
    obtain ⟨nc, ec⟩ : ∃ n : Int, n = (Img.lostC m : Nat) := ⟨_, rfl⟩
    obtain ⟨nd, ed⟩ : ∃ n : Int, n = (Img.lostD m : Nat) := ⟨_, rfl⟩
    rw [← ef, ← ec, ← ed]
    have EF := hide ef
    have EC := hide ec
    have ED := hide ed
    clear ef ec ed
    have B4 := hide ((unhide B3).pair c3 (.int .i64 nf) (.int .i64 nc) (.int .i64 nd))
    have T2 := two2 w3 c3
    have s1 := hide T2.r0
    have c0 := T2.cells 0 (by omega)
    have c1 := T2.cells 1 (by omega)
    have c2 := T2.cells 2 (by omega)
    have fz := T2.fz
    clear T2 B3
    go_wp2_with (have hx := unhide s1; refine wpList_store_row rfl 34 _ _ rfl w3.heap.size c3 rfl rfl 34 zeroCells hx (img_info z3) (zero_size i3) (i3.all) ?_; clear hx s1; generalize ((w3.alloc (.cells zeroCells 34)).alloc (.cells #[.int .i64 0, .int .i64 0, .int .i64 0] 38)).setRow w3.heap.size c3 = Yw3 at B4 c0 c1 c2 fz ⊢)
    generalize hX4 : ((Yw3.setCell ⟨w3.heap.size + 1, 0, none⟩ (.int .i64 nf)).setCell ⟨w3.heap.size + 1, 1, none⟩ (.int .i64 nc)).setCell ⟨w3.heap.size + 1, 2, none⟩ (.int .i64 nd) = X4 at B4 ⊢
    generalize w3.heap.size + 1 = g4 at B4 ⊢
    generalize w3.heap.size = g3 at B4 ⊢
    have e6 : X4.heap.size = Yw3.heap.size := by rw [← hX4]; simp [World.setCell]
    clear c0 c1 c2 fz hX4
    have B5 := hide ((unhide B4).box #[.int .i64 0, .int .i64 0, .int .i64 0] 38)
    clear B4
    rw [e6] at B5
    clear e6
    generalize X4.alloc (.cells #[.int .i64 0, .int .i64 0, .int .i64 0] 38) = X5 at B5 ⊢
    generalize Yw3.heap.size = g6 at B5 ⊢
    go_loopw [7] (fun i wr => ∃ kk : Nat, kk ≤ 8 ∧ i = .int .i64 kk ∧ Hid (By w wr ((g6, #[.int .i64 (Img.cnt (Img.goes m) kk : Nat), .int .i64 (Img.cnt (Img.other (Img.mend1 m)) kk : Nat), .int .i64 0], 38) :: (g4, #[.int .i64 nf, .int .i64 nc, .int .i64 nd], 38) :: (g3, c3, 34) :: (g1, cs, 34) :: []))) (fun i _ => 8 - (intOf i).toNat)
    case atStart => exact ⟨0, by omega, rfl, B5⟩
    case round =>
      clear B5
      obtain ⟨kk, hk8, rfl, BK⟩ := hrel
      by_cases hlt : kk < 8
      case pos =>
        have t8 : decide ((kk : Int) < 8) = true := by simp; omega
        have jz : (kk : Int) < 8 := by omega
        have b1 := Img.cnt_le (Img.goes m) kk
        have b2 := Img.cnt_le (Img.other (Img.mend1 m)) kk
        have CF := hide (Img.count_files (m := m) hlt)
        have CL := hide (Img.count_links (unhide HC) hlt)
        have CM := hide (Img.count_more (unhide HC) hlt)
        have FA := hide (show ∀ (W : World) (l0 : Array Value), By w W ((g6, l0, 38) :: (g4, #[.int .i64 nf, .int .i64 nc, .int .i64 nd], 38) :: (g3, c3, 34) :: (g1, cs, 34) :: []) → (W.cell? ⟨g1, kk * 5, none⟩ = some (.bool (m.live kk)) ∧ W.cell? ⟨g3, kk * 5, none⟩ = some (.bool ((Img.mend m).live kk))) ∧ (W.cell? ⟨g1, kk * 5 + 2, none⟩ = some (.int .i64 (m.links kk)) ∧ W.cell? ⟨g3, kk * 5 + 2, none⟩ = some (.int .i64 ((Img.mend m).links kk))) from fun W l0 h => by
          have r1 := h.row (g1, cs, 34) (.tail _ (.tail _ (.tail _ (.head _))))
          have r3 := h.row (g3, c3, 34) (.tail _ (.tail _ (.head _)))
          exact ⟨⟨by rw [cell_of_row _ _ _ _ _ _ r1]; exact hi.live kk hlt, by rw [cell_of_row _ _ _ _ _ _ r3]; exact i3.live kk hlt⟩, by rw [cell_of_row _ _ _ _ _ _ r1]; exact hi.links kk hlt, by rw [cell_of_row _ _ _ _ _ _ r3]; exact i3.links kk hlt⟩)
        have FL := hide (show ∀ (W : World) (a b d : Value), By w W ((g6, #[a, b, d], 38) :: (g4, #[.int .i64 nf, .int .i64 nc, .int .i64 nd], 38) :: (g3, c3, 34) :: (g1, cs, 34) :: []) → (W.cell? ⟨g6, 0, none⟩ = some a ∧ W.cell? ⟨g6, 1, none⟩ = some b ∧ W.cell? ⟨g6, 2, none⟩ = some d) ∧ ∀ i, W.frozen? ⟨g6, i, none⟩ = false from fun W a b d h => by
          have r := h.row (g6, _, 38) (.head _)
          exact ⟨⟨by rw [cell_of_row _ _ _ _ _ _ r]; rfl, by rw [cell_of_row _ _ _ _ _ _ r]; rfl, by rw [cell_of_row _ _ _ _ _ _ r]; rfl⟩, fun i => frozen_of_row _ _ i _ _ r⟩)
        obtain ⟨⟨q1, q2⟩, q3, q4⟩ := unhide FA _ _ (unhide BK)
        obtain ⟨⟨p1, p2, _⟩, pz⟩ := unhide FL _ _ _ _ (unhide BK)
        generalize (Img.mend m).links kk = lx at q4 CL CM FA
        generalize m.links kk = lm at q3 CL CM FA
        cases hx : (Img.mend m).live kk <;> rw [hx] at q2 CF CL CM FA
        case false =>
          cases hm : m.live kk <;> rw [hm] at q1 CF FA
          case false =>
            have h1 := hide (Img.cnt_no (unhide CF).symm)
            have h2 := hide (Img.cnt_no (unhide CL).symm)
            clear CF CL CM FA FL
            go_wp2_with fail
            go_quiet (fail)
            go_wp2_with fail
            go_quiet (fail)
            go_wp2_with fail
            go_roundw
            case rel => exact ⟨kk + 1, by omega, by go_num, hide (by rw [unhide h1, unhide h2]; exact (unhide BK).call (by first | exact belowN (Below.refl _ _) | exact belowN (belowN (Below.refl _ _))))⟩
            case measure => simp [intOf]; omega
          case true =>
            have h1 := hide (Img.cnt_yes (unhide CF).symm)
            have h2 := hide (Img.cnt_no (unhide CL).symm)
            have B6 := hide ((unhide BK).mut0 (Mv.set0 (v := .int .i64 ((Img.cnt (Img.goes m) kk : Nat) + 1)) ((unhide BK).row (g6, _, 38) (.head _))))
            clear CF CL CM
            go_wp2_with fail
            generalize wr.setCell ⟨g6, 0, none⟩ (.int .i64 ((Img.cnt (Img.goes m) kk : Nat) + 1)) = X6 at B6 ⊢
            obtain ⟨⟨_, q2⟩, _, _⟩ := unhide FA _ _ (unhide B6)
            clear FA FL
            go_quiet (fail)
            go_wp2_with fail
            go_quiet (fail)
            go_wp2_with fail
            go_roundw
            case rel => exact ⟨kk + 1, by omega, by go_num, hide (by rw [unhide h1, unhide h2]; exact (unhide B6).call (by first | exact belowN (Below.refl _ _) | exact belowN (belowN (Below.refl _ _))))⟩
            case measure => simp [intOf]; omega
        case true =>
          have hm : m.live kk = true := by
            have := unhide CF
            have e := Img.mend_live (m := m) hlt
            rw [hx] at e
            cases hq : m.live kk
            · rw [hq] at e; cases e
            · rfl
          rw [hm] at q1 CF FA
          have gt : decide (lm < lx) = false := by have := unhide CM rfl; simp; omega
          have h1 := hide (Img.cnt_no (unhide CF).symm)
          cases hb : (lm == lx) <;> rw [hb] at CL
          case true =>
            have ne : (lm != lx) = false := by simp [bne, hb]
            have h2 := hide (Img.cnt_no (unhide CL).symm)
            clear CF CL CM FA FL hb
            go_wp2_with fail
            go_quiet (fail)
            go_wp2_with fail
            go_quiet (fail)
            go_wp2_with fail
            go_roundw
            case rel => exact ⟨kk + 1, by omega, by go_num, hide (by rw [unhide h1, unhide h2]; exact (unhide BK).call (by first | exact belowN (Below.refl _ _) | exact belowN (belowN (Below.refl _ _))))⟩
            case measure => simp [intOf]; omega
          case false =>
            have ne : (lm != lx) = true := by simp [bne, hb]
            have h2 := hide (Img.cnt_yes (unhide CL).symm)
            clear CF CL CM hb
            go_wp2_with fail
            go_quiet (fail)
            have B6 := hide ((unhide BK).call (w1 := wr.drewN nq) (belowN (Below.refl _ _)))
            have B7 := hide ((unhide B6).mut0 (Mv.set1 (v := .int .i64 ((Img.cnt (Img.other (Img.mend1 m)) kk : Nat) + 1)) ((unhide B6).row (g6, _, 38) (.head _))))
            go_wp2_with fail
            generalize (wr.drewN nq).setCell ⟨g6, 1, none⟩ (.int .i64 ((Img.cnt (Img.other (Img.mend1 m)) kk : Nat) + 1)) = X6 at B7 ⊢
            obtain ⟨⟨_, q2⟩, q3, q4⟩ := unhide FA _ _ (unhide B7)
            clear FA FL B6
            go_quiet (fail)
            go_wp2_with fail
            go_roundw
            case rel => exact ⟨kk + 1, by omega, by go_num, hide (by rw [unhide h1, unhide h2]; exact (unhide B7).call (belowN (Below.refl _ _)))⟩
            case measure => simp [intOf]; omega
      case neg =>
        have e8 : kk = 8 := by omega
        subst e8
        go_wp2_with fail
        have BK' : Hid (By w wr ((g6, #[.int .i64 nf, .int .i64 nc, .int .i64 (Img.cnt (Img.lost (Img.mend2 m)) 0 : Nat)], 38) :: (g4, #[.int .i64 nf, .int .i64 nc, .int .i64 nd], 38) :: (g3, c3, 34) :: (g1, cs, 34) :: [])) := hide (by have := unhide BK; rw [show ((Img.cnt (Img.goes m) 8 : Nat) : Int) = nf from (unhide EF).symm, show ((Img.cnt (Img.other (Img.mend1 m)) 8 : Nat) : Int) = nc from (unhide EC).symm] at this; exact this)
        clear BK
        go_loopw [8] (fun i wr => ∃ kk : Nat, kk ≤ 9 ∧ i = .int .i64 kk ∧ Hid (By w wr ((g6, #[.int .i64 nf, .int .i64 nc, .int .i64 (Img.cnt (Img.lost (Img.mend2 m)) kk : Nat)], 38) :: (g4, #[.int .i64 nf, .int .i64 nc, .int .i64 nd], 38) :: (g3, c3, 34) :: (g1, cs, 34) :: []))) (fun i _ => 9 - (intOf i).toNat)
        case atStart => exact ⟨0, by omega, rfl, BK'⟩
        case round =>
          clear BK'
          obtain ⟨kk, hk9, rfl, BK⟩ := hrel
          by_cases hlt : kk < 9
          case pos =>
            have t9 : decide ((kk : Int) < 9) = true := by simp; omega
            have jz : (kk : Int) < 9 := by omega
            have b1 := Img.cnt_le (Img.lost (Img.mend2 m)) kk
            have CD := Img.count_data (m := m) hlt
            have r1 := (unhide BK).row (g1, cs, 34) (.tail _ (.tail _ (.tail _ (.head _))))
            have r3 := (unhide BK).row (g3, c3, 34) (.tail _ (.tail _ (.head _)))
            have r6 := (unhide BK).row (g6, _, 38) (.head _)
            have q1 : wr.cell? ⟨g1, 76 + kk * 2, none⟩ = some (.int .i64 (m.of kk)) := by rw [cell_of_row _ _ _ _ _ _ r1]; exact hi.of kk hlt
            have q2 : wr.cell? ⟨g1, 76 + kk * 2 + 1, none⟩ = some (.string (m.text kk)) := by rw [cell_of_row _ _ _ _ _ _ r1]; exact hi.text kk hlt
            have q3 : wr.cell? ⟨g3, 76 + kk * 2, none⟩ = some (.int .i64 ((Img.mend m).of kk)) := by rw [cell_of_row _ _ _ _ _ _ r3]; exact i3.of kk hlt
            have q4 : wr.cell? ⟨g3, 76 + kk * 2 + 1, none⟩ = some (.string ((Img.mend m).text kk)) := by rw [cell_of_row _ _ _ _ _ _ r3]; exact i3.text kk hlt
            have q5 : wr.cell? ⟨g6, 2, none⟩ = some (.int .i64 (Img.cnt (Img.lost (Img.mend2 m)) kk : Nat)) := by rw [cell_of_row _ _ _ _ _ _ r6]; rfl
            have qz := fun i => frozen_of_row _ _ i _ _ r6
            have QD := neqlDat (m.of kk) ((Img.mend m).of kk) (m.text kk) ((Img.mend m).text kk)
            rw [CD] at QD
            clear CD r1 r3 r6
            cases hl : Img.lost (Img.mend2 m) kk <;> rw [hl] at QD
            case false =>
              have h1 := hide (Img.cnt_no hl)
              clear hl
              go_wp2_with fail
              go_quiet (fail)
              go_wp2_with fail
              go_roundw
              case rel => first | exact ⟨kk + 1, by omega, by go_num, hide (by rw [unhide h1]; exact (unhide BK).call (belowN (Below.refl _ _)))⟩ | ((repeat apply Exists.intro); exact ⟨⟨kk + 1, by omega, by go_num, hide (by rw [unhide h1]; exact (unhide BK).call (belowN (Below.refl _ _)))⟩, rfl⟩)
              case measure => simp [intOf]; omega
            case true =>
              have h1 := hide (Img.cnt_yes hl)
              have cz := Img.count_zero hlt hl
              rw [cz.1, cz.2] at QD
              rw [cz.1] at q3
              rw [cz.2] at q4
              have Q0 := neqlDat 0 0 ⟨#[]⟩ ⟨#[]⟩
              rw [show (!((0 : Int) == 0 && (⟨#[]⟩ : ByteArray).toList == (⟨#[]⟩ : ByteArray).toList)) = false by simp] at Q0
              clear hl cz
              go_wp2_with fail
              go_quiet (fail)
              have B6 := hide ((unhide BK).call (w1 := wr.drewN nq) (belowN (Below.refl _ _)))
              have B7 := hide ((unhide B6).mut0 (Mv.set2 (v := .int .i64 ((Img.cnt (Img.lost (Img.mend2 m)) kk : Nat) + 1)) ((unhide B6).row (g6, _, 38) (.head _))))
              go_wp2_with fail
              go_roundw
              case rel => first | exact ⟨kk + 1, by omega, by go_num, hide (by rw [unhide h1]; exact unhide B7)⟩ | ((repeat apply Exists.intro); exact ⟨⟨kk + 1, by omega, by go_num, hide (by rw [unhide h1]; exact unhide B7)⟩, rfl⟩)
              case measure => simp [intOf]; omega
          case neg =>
            have e9 : kk = 9 := by omega
            subst e9
            have QL := eqLost nf nc nd nf nc nd
            rw [show lostB nf nc nd nf nc nd = true by simp [lostB]] at QL
            unfold lostA at QL
            have BE := unhide BK
            rw [show ((Img.cnt (Img.lost (Img.mend2 m)) 9 : Nat) : Int) = nd from (unhide ED).symm] at BE
            have r6 := BE.row (g6, _, 38) (.head _)
            have r4 := BE.row (g4, _, 38) (.tail _ (.head _))
            have BE := hide BE
            have q1 : wr.cell? ⟨g6, 0, none⟩ = some (.int .i64 nf) := by rw [cell_of_row _ _ _ _ _ _ r6]; rfl
            have q2 : wr.cell? ⟨g6, 1, none⟩ = some (.int .i64 nc) := by rw [cell_of_row _ _ _ _ _ _ r6]; rfl
            have q3 : wr.cell? ⟨g6, 2, none⟩ = some (.int .i64 nd) := by rw [cell_of_row _ _ _ _ _ _ r6]; rfl
            have q4 : wr.cell? ⟨g4, 0, none⟩ = some (.int .i64 nf) := by rw [cell_of_row _ _ _ _ _ _ r4]; rfl
            have q5 : wr.cell? ⟨g4, 1, none⟩ = some (.int .i64 nc) := by rw [cell_of_row _ _ _ _ _ _ r4]; rfl
            have q6 : wr.cell? ⟨g4, 2, none⟩ = some (.int .i64 nd) := by rw [cell_of_row _ _ _ _ _ _ r4]; rfl
            clear r4 r6 BK
            go_wp2_with fail
            go_ret
            exact ⟨rfl, (unhide BE).below⟩
end Go.Proofs.Ytmlhalhjfcfagac
