/-
  The walk of eiderdownlaw.IdealApart.
-/
import Derived.Test.YtgepolkoddhapaaVs
import Derived.Test.YtgepolkoddhapaaXa
namespace Go.Proofs.Ytgepolkoddhapaa
open Go.RowKit
namespace Idl
set_option maxHeartbeats 8000000 in
set_option maxRecDepth 100000 in
theorem idealApart_some {w : World} {L : List Stp} {g o c : Nat} (hs : Steps w (.slice (some ⟨g, o, none⟩) L.length c) L) (x : Stp) (hx : x.ok) :
    Calls Try.prog 8 #[(.slice (some ⟨g, o, none⟩) L.length c), .agg (stpA x)] w fun e w' => e = .returned (.bool true) ∧ Below w.heap.size w w' := by
  have b0 : Below w.heap.size w (w.alloc (.cells (stpA x) 49)) := (Below.refl _ w).alloc (Nat.le_refl _) _
  have hbg := begun_any (w.alloc (.cells (stpA x) 49))
  have HG := hide fun W (bW : Below w.heap.size w W) => greatSteps_any (hs.below bW)
  have HX := hide fun W => greatStep_any x hx W
  have HC := hide fun W bW => stp_kept w x W bW
  have HB0 := hide b0
  have HSt := hide fun i hi => hs.cells i hi
  have HOk := hide hs.ok
  have HXo := hide hx
  have hlen := hs.len
  unfold maxLen at hlen
  have hgl : greats L = false → L.length ≤ 200 := fun h => by
    simp only [greats, Bool.or_eq_false_iff, decide_eq_false_iff_not] at h
    omega
  have HGL := hide hgl
  clear hs hx b0 hgl
  go_enter Try.func8, Try.ntmps8
  go_wp2_with fail
  refine hbg.mono ?_
  rintro e w1 ⟨rfl, b1⟩
  have B1 := hide ((unhide HB0).trans (b1.mono (by simp)))
  have A1 := hide b1
  have hg := unhide HG w1 (unhide B1)
  clear b1 hbg
  cases hgr : greats L <;> rw [hgr] at hg
  case true =>
    clear hgr
    go_wp2_with fail
    refine hg.mono ?_
    rintro e w2 ⟨rfl, b2⟩
    have B2 := hide ((unhide B1).trans (b2.mono (unhide B1).size))
    clear b2 hg
    go_wp2
    go_ret
    exact ⟨rfl, unhide B2⟩
  have h200 := unhide HGL hgr
  clear hgr
  go_wp2_with fail
  refine hg.mono ?_
  rintro e w2 ⟨rfl, b2⟩
  have B2 := hide ((unhide B1).trans (b2.mono (unhide B1).size))
  have A2 := hide ((unhide A1).trans (b2.mono (unhide A1).size))
  have q0 := unhide HC w2 (unhide A2) 0 _ rfl
  have q1 := unhide HC w2 (unhide A2) 1 _ rfl
  have q2 := unhide HC w2 (unhide A2) 2 _ rfl
  have q3 := unhide HC w2 (unhide A2) 3 _ rfl
  have q4 := unhide HC w2 (unhide A2) 4 _ rfl
  have q5 := unhide HC w2 (unhide A2) 5 _ rfl
  have q6 := unhide HC w2 (unhide A2) 6 _ rfl
  have hgx := unhide HX w2
  clear b2 hg
  cases hgr : great x <;> rw [hgr] at hgx
  case true =>
    clear hgr
    go_wp2_with fail
    refine hgx.mono ?_
    rintro e w3 ⟨rfl, b3⟩
    have B3 := hide ((unhide B2).trans (b3.mono (unhide B2).size))
    clear b3 hgx
    go_wp2
    go_ret
    exact ⟨rfl, unhide B3⟩
  clear hgr
  go_wp2_with fail
  refine hgx.mono ?_
  rintro e w3 ⟨rfl, b3⟩
  have A3 := hide ((unhide A2).trans (b3.mono (unhide A2).size))
  clear b3 hgx q0 q1 q2 q3 q4 q5 q6
  go_wp2_with fail
  refine (New_any _).mono ?_
  rintro e w4 ⟨rfl, e9⟩
  rw [e9]
  clear e9 w4
  go_wp2_with fail
  refine (New_any _).mono ?_
  rintro e w5 ⟨rfl, e9⟩
  rw [e9]
  clear e9 w5
  have hL := Lw.start (w := w) (x := x) (unhide A3)
  have e1 : (w3.alloc nw).heap.size = w3.heap.size + 1 := by simp
  rw [e1] at hL
  unfold nw at hL
  have HL := hide hL
  clear hL e1
  rw [show (w3.alloc (Obj.cells #[Value.slice none 0 0, Value.slice none 0 0, Value.slice none 0 0] 79)).heap.size = w3.heap.size + 1 from by simp]
  generalize (w3.alloc (Obj.cells #[Value.slice none 0 0, Value.slice none 0 0, Value.slice none 0 0] 79)).alloc (Obj.cells #[Value.slice none 0 0, Value.slice none 0 0, Value.slice none 0 0] 79) = w6 at HL ⊢
  go_wp2_with fail
  go_loopw [7] (fun i wr => ∃ (k : Nat) (S : St), k ≤ L.length ∧ i = .int .i64 k ∧ Hid (Lw w w3.heap.size (w3.heap.size + 1) x S S wr) ∧ Hid (Few S k)) (fun i _ => L.length - (intOf i).toNat)
  case atStart => exact ⟨0, St.empty, Nat.zero_le _, rfl, HL, few0⟩
  case round =>
    obtain ⟨k, S, hk, rfl, HL0, HF0⟩ := hrel
    clear HL
    by_cases hlt : k < L.length
    · obtain ⟨g', o', c', e1, _, hcc⟩ := unhide HSt k hlt
      simp only [Value.slice.injEq, Option.some.injEq, Addr.mk.injEq] at e1
      obtain ⟨⟨rfl, rfl, _⟩, _, rfl⟩ := e1
      have HCC := hide hcc
      obtain ⟨q0, q1, q2, q3, q4, q5, q6⟩ := hcc _ (unhide HL0).bel
      have hok := unhide HOk _ (List.getElem_mem hlt)
      have hd := (unhide HL0).step ((unhide HF0).mono (by omega)) L[k] hok
      have HD2 := hide fun T W (h : Lw w w3.heap.size (w3.heap.size + 1) x T S W) => h.step2 ((unhide HF0).mono (by omega)) L[k] hok
      have z1 : (k : Int) < (L.length : Int) := by omega
      clear hcc hok
      go_wp2_with fail
      refine hd.mono ?_
      rintro e w7 ⟨rfl, l7⟩
      have hd2 := unhide HD2 _ w7 l7
      obtain ⟨r0, r1, r2, r3, r4, r5, r6⟩ := unhide HCC w7 l7.bel
      clear l7 hd q0 q1 q2 q3 q4 q5 q6
      go_wp2_with fail
      refine hd2.mono ?_
      rintro e w8 ⟨rfl, l8⟩
      have HL8 := hide l8
      clear l8 hd2
      go_wp2
      go_roundw
      case rel => exact ⟨k + 1, step S L[k], by omega, by go_num, HL8, (unhide HF0).step _⟩
      case measure => simp [intOf]; omega
    · have z1 : (L.length : Int) ≤ (k : Int) := by omega
      have hF0 : Few S 200 := (unhide HF0).mono (by omega)
      clear HF0
      have HFS := hide hF0
      have HIv := hide (unhide HL0).two.inv.1
      have c0 := (unhide HL0).box 0 _ rfl
      have c1 := (unhide HL0).box 1 _ rfl
      have c2 := (unhide HL0).box 2 _ rfl
      have c3 := (unhide HL0).box 3 _ rfl
      have c4 := (unhide HL0).box 4 _ rfl
      have c5 := (unhide HL0).box 5 _ rfl
      have c6 := (unhide HL0).box 6 _ rfl
      have hdo := (unhide HL0).step ((unhide HFS).mono (by omega)) x (unhide HXo)
      have HCC := hide (rfl : code S x = code S x)
      generalize hcc0 : code S x = cc at hdo
      have HCc := hide hcc0
      clear hF0 hcc0 HCC
      go_wp2_with fail
      refine hdo.mono ?_
      rintro e wp ⟨rfl, lp⟩
      have HLf := hide lp
      clear lp hdo c0 c1 c2 c3 c4 c5 c6 HL0
      go_wp2_with fail
      go_loopw [9] (fun i wr => ∃ d : Nat, d ≤ 3 ∧ i = .int .i64 d ∧ Hid (Lw w w3.heap.size (w3.heap.size + 1) x (step S x) S wr)) (fun i _ => 3 - (intOf i).toNat)
      case atStart => exact ⟨0, by omega, rfl, HLf⟩
      case round =>
        obtain ⟨d, hd, rfl, HLd⟩ := hrel
        clear HLf
        by_cases hlt : d < 3
        · have hl1 := (unhide HLd).two.flip.list ((unhide HFS).mono (by omega)) d
          have z1 : (d : Int) < 3 := by omega
          go_wp2_with fail
          refine hl1.mono ?_
          rintro e wn ⟨v1, rfl, ro1, ba⟩
          have HLc := hide ((unhide HLd).grow ba)
          have hnc := names_cell ro1
          have hnl := names_few (unhide HFS) d
          clear hl1 ro1 ba HLd
          rcases hnc with ⟨rfl, en⟩ | ⟨gn, cn, rfl, gnl, kn⟩
          · have en' : (names S d).length = 0 := by rw [en]; rfl
            clear en hnl
            go_wp2_with fail
            go_loopw [11] (fun i wr => i = .int .i64 0 ∧ wr = wn) (fun _ _ => 0)
            case atStart => exact ⟨rfl, rfl⟩
            case round =>
              obtain ⟨rfl, rfl⟩ := hrel
              have HLz := HLc
              have hl3 := (unhide HLz).two.list (((unhide HFS).step _).mono (by omega)) d
              obtain ⟨j1, j2, j3⟩ := len_step (unhide HIv) x hlt
              have hln := names_few ((unhide HFS).step x) d
              generalize (names (step S x) d).length = l1 at hl3 j1 j2 j3 hln
              have J3 := hide j3
              clear j3
              rw [en'] at j1 j2 J3
              go_wp2_with fail
              refine hl3.mono ?_
              rintro e wz ⟨v3, rfl, ro3, bz⟩
              have HLy := hide ((unhide HLz).grow bz)
              have hv3 : (v3 = .slice none 0 0 ∧ l1 = 0) ∨ ∃ g3 c3, v3 = .slice (some ⟨g3, 0, none⟩) l1 c3 := by
                rcases ro3.2 with h1 | ⟨g3, c3, cur3, h1, _⟩
                · exact .inl h1
                · exact .inr ⟨g3, c3, h1⟩
              clear hl3 ro3 bz
              cases hcc : (cc == 0)
              case true =>
                have y0 : (cc != 0) = false := by simp [bne, hcc]
                rcases hv3 with ⟨rfl, rfl⟩ | ⟨g3, c3, rfl⟩
                all_goals
                  go_wp2
                  go_roundw
                  case rel => first | exact ⟨d + 1, by omega, by go_num, HLy⟩ | ((repeat apply Exists.intro); exact ⟨⟨d + 1, by omega, by go_num, HLy⟩, rfl⟩)
                  case measure => simp [intOf]; omega
              have y0 : (cc != 0) = true := by simp [bne, hcc]
              have hll := unhide J3 (by rw [unhide HCc]; simpa using hcc)
              subst hll
              rcases hv3 with ⟨rfl, h30⟩ | ⟨g3, c3, rfl⟩
              · go_wp2
                go_roundw
                case rel => first | exact ⟨d + 1, by omega, by go_num, HLy⟩ | ((repeat apply Exists.intro); exact ⟨⟨d + 1, by omega, by go_num, HLy⟩, rfl⟩)
                case measure => simp [intOf]; omega
              · go_wp2
                go_roundw
                case rel => first | exact ⟨d + 1, by omega, by go_num, HLy⟩ | ((repeat apply Exists.intro); exact ⟨⟨d + 1, by omega, by go_num, HLy⟩, rfl⟩)
                case measure => simp [intOf]; omega
          · have KN := hide kn
            clear kn
            go_wp2_with fail
            go_loopw [11] (fun i wr => ∃ k : Nat, k ≤ (names S d).length ∧ i = .int .i64 k ∧ Hid (Lw w w3.heap.size (w3.heap.size + 1) x (step S x) S wr) ∧ Hid (Below wn.heap.size wn wr)) (fun i _ => (names S d).length - (intOf i).toNat)
            case atStart => exact ⟨0, Nat.zero_le _, rfl, HLc, Below.refl _ _⟩
            case round =>
              obtain ⟨k, hk, rfl, HLk, HBk⟩ := hrel
              by_cases hltk : k < (names S d).length
              · have z2 : (k : Int) < ((names S d).length : Int) := by omega
                have KK := hide (unhide KN k hltk)
                have SK := hide (names_small (unhide HIv) hlt hltk)
                have RK0 := hide (names_mem (S := S) hlt hltk)
                generalize (names S d)[k] = nm at KK SK RK0
                obtain ⟨its, hits⟩ : ∃ its : Bool, its = (((d : Int) == x.dir && nm.toList == x.name.toList) || ((d : Int) == x.toDir && nm.toList == x.to.toList)) := ⟨_, rfl⟩
                obtain ⟨skip, hsk⟩ : ∃ skip : Bool, skip = (cc == 0 && (its || same S d nm x.dir x.name)) := ⟨_, rfl⟩
                have RK := hide (apart_law (unhide HIv) hlt (unhide RK0) (unhide HCc) hits hsk)
                have HITS := hide hits
                have HSK := hide hsk
                clear hits hsk RK0
                have b1 := (unhide HLk).box 1 _ rfl
                have b2 := (unhide HLk).box 2 _ rfl
                have b4 := (unhide HLk).box 4 _ rfl
                have b5 := (unhide HLk).box 5 _ rfl
                have nn := ((unhide HBk).cell (p := ⟨gn, k, none⟩) gnl).trans (unhide KK)
                go_wp2_with fail
                go_cut [12] (fun s wx => s = .bool its ∧ Hid (Lw w w3.heap.size (w3.heap.size + 1) x (step S x) S wx) ∧ Hid (Below wn.heap.size wn wx))
                case first =>
                  cases hA1 : ((d : Int) == x.dir)
                  case true =>
                    cases hA2 : (nm.toList == x.name.toList)
                    case true =>
                      go_quiet (fail)
                      go_wp2_with fail
                      go_meet
                      exact ⟨by rw [unhide HITS]; simp [hA1, hA2], (unhide HLk).grow (belowD (Below.refl _ _)), (unhide HBk).trans (belowD (Below.refl _ _))⟩
                    cases hB1 : ((d : Int) == x.toDir)
                    case true =>
                      cases hB2 : (nm.toList == x.to.toList)
                      all_goals
                        go_quiet (fail)
                        go_wp2_with fail
                        go_meet
                        exact ⟨by rw [unhide HITS]; simp [hA1, hA2, hB1, hB2], (unhide HLk).grow (belowD (Below.refl _ _)), (unhide HBk).trans (belowD (Below.refl _ _))⟩
                    go_quiet (fail)
                    go_wp2_with fail
                    go_meet
                    exact ⟨by rw [unhide HITS]; simp [hA1, hA2, hB1], (unhide HLk).grow (belowD (Below.refl _ _)), (unhide HBk).trans (belowD (Below.refl _ _))⟩
                  cases hB1 : ((d : Int) == x.toDir)
                  case true =>
                    cases hB2 : (nm.toList == x.to.toList)
                    all_goals
                      go_quiet (fail)
                      go_wp2_with fail
                      go_meet
                      exact ⟨by rw [unhide HITS]; simp [hA1, hB1, hB2], (unhide HLk).grow (belowD (Below.refl _ _)), (unhide HBk).trans (belowD (Below.refl _ _))⟩
                  go_quiet (fail)
                  go_wp2_with fail
                  go_meet
                  exact ⟨by rw [unhide HITS]; simp [hA1, hB1], (unhide HLk).grow (belowD (Below.refl _ _)), (unhide HBk).trans (belowD (Below.refl _ _))⟩
                case rest =>
                  obtain ⟨rfl, HLs0, HBs0⟩ := hcut
                  have e1 := (unhide HLs0).box 1 _ rfl
                  have e4 := (unhide HLs0).box 4 _ rfl
                  have nn2 := ((unhide HBs0).cell (p := ⟨gn, k, none⟩) gnl).trans (unhide KK)
                  have HSm := hide fun (p : Beyond wc) => Beyond.call (((unhide HLs0).grow p.h).two.flip.same ((unhide HFS).mono (by omega)) d nm x.dir x.name)
                  have pe1 : ∀ p : Beyond wc, p.W.cell? ⟨w.heap.size, 1, none⟩ = some (.int .i64 x.dir) := fun p => ((unhide HLs0).grow p.h).box 1 _ rfl
                  have pe4 : ∀ p : Beyond wc, p.W.cell? ⟨w.heap.size, 4, none⟩ = some (.string x.name) := fun p => ((unhide HLs0).grow p.h).box 4 _ rfl
                  have pnn : ∀ p : Beyond wc, p.W.cell? ⟨gn, k, none⟩ = some (.string nm) := fun p => (p.h.cell (p := ⟨gn, k, none⟩) (Nat.lt_of_lt_of_le gnl (unhide HBs0).size)).trans nn2
                  have bel0 : Below wc.heap.size wc wc := Below.refl _ _
                  clear b1 b2 b4 b5 nn HLk HBk
                  go_wp2_with fail
                  go_cut [110] (fun s wx => s = .bool skip ∧ Hid (Lw w w3.heap.size (w3.heap.size + 1) x (step S x) S wx) ∧ Hid (Below wn.heap.size wn wx))
                  case first =>
                    cases hcc : (cc == 0)
                    · go_quiet (fail)
                      go_wp2_with fail
                      go_meet
                      exact ⟨by rw [unhide HSK]; simp [hcc], (unhide HLs0).grow (belowD (Below.refl _ _)), (unhide HBs0).trans (belowD (Below.refl _ _))⟩
                    · cases its
                      · have hne : Nonempty (Beyond wc) := ⟨⟨wc, Below.refl _ _⟩⟩
                        refine wp_region_beyond (by kernel_rfl) (by kernel_rfl) ?_
                        repeat (go_big_quiet_step ((go_at_call 30; exact unhide HSm _)))
                        refine wpQuiet_nil ?_
                        intro _ hw'
                        obtain ⟨⟨w9, B9⟩, hw''⟩ := hw'
                        subst hw''
                        go_wp2_with fail
                        go_meet
                        exact ⟨by rw [unhide HSK]; simp [hcc], (unhide HLs0).grow B9, (unhide HBs0).trans (B9.mono (unhide HBs0).size)⟩
                      · go_quiet (fail)
                        go_wp2_with fail
                        go_meet
                        exact ⟨by rw [unhide HSK]; simp [hcc], (unhide HLs0).grow (belowD (Below.refl _ _)), (unhide HBs0).trans (belowD (Below.refl _ _))⟩
                  case rest =>
                    obtain ⟨rfl, HLs, HBs⟩ := hcut
                    clear HLs0 HBs0 e1 e4 nn2 HSm bel0 HSK HITS pe1 pe4 pnn
                    cases skip
                    · skip
                      go_wp2_with fail
                      go_loopw [13] (fun i wr => ∃ p : Nat, p ≤ 2 ∧ i = .int .i64 p ∧ Hid (Lw w w3.heap.size (w3.heap.size + 1) x (step S x) S wr) ∧ Hid (Below wn.heap.size wn wr)) (fun i _ => 2 - (intOf i).toNat)
                      case atStart => exact ⟨0, by omega, rfl, HLs, HBs⟩
                      case round =>
                        obtain ⟨p, hp, rfl, HLp, HBp⟩ := hrel
                        by_cases hltp : p < 2
                        · have z3 : (p : Int) < 2 := by omega
                          have n1 := ((unhide HBp).cell (p := ⟨gn, k, none⟩) gnl).trans (unhide KK)
                          obtain ⟨r1, r2, r3, r4⟩ := unhide RK (by simp) p hltp
                          have hr1 := (unhide HLp).two.read (((unhide HFS).step _).mono (by omega)) d nm (unhide SK) p
                          rw [r1, r3, r4] at hr1
                          have RR := hide r2
                          clear r1 r2 r3 r4
                          go_wp2_with fail
                          refine hr1.mono ?_
                          rintro e wd ⟨rfl, bd⟩
                          have HLq := hide ((unhide HLp).grow bd)
                          have HBq := hide ((unhide HBp).trans (bd.mono (unhide HBp).size))
                          have n2 := ((unhide HBq).cell (p := ⟨gn, k, none⟩) gnl).trans (unhide KK)
                          have hr2 := (unhide HLq).two.flip.read ((unhide HFS).mono (by omega)) d nm (unhide SK) p
                          rw [unhide RR] at hr2
                          generalize rdT S d nm p = tx at hr2 ⊢
                          generalize rdB S d nm p = bx at hr2 ⊢
                          have y1 : (tx.toList == tx.toList) = true := by simp
                          have y2 : (bx == bx) = true := by simp
                          have y3 : (bx != bx) = false := by simp
                          clear hr1 bd n1
                          go_wp2_with fail
                          refine hr2.mono ?_
                          rintro e we ⟨rfl, be⟩
                          have HLe := hide ((unhide HLq).grow be)
                          have HBe := hide ((unhide HBq).trans (be.mono (unhide HBq).size))
                          clear hr2 be n2
                          go_wp2
                          go_roundw
                          case rel => exact ⟨p + 1, by omega, by go_num, HLe, HBe⟩
                          case measure => simp [intOf]; omega
                        · go_wp2_with fail
                          go_roundw
                          case rel => first | exact ⟨k + 1, by omega, by go_num, HLp, HBp⟩ | ((repeat apply Exists.intro); exact ⟨⟨k + 1, by omega, by go_num, HLp, HBp⟩, rfl⟩)
                          case measure => simp [intOf]; omega
                    · go_wp2_with fail
                      go_roundw
                      case rel => first | exact ⟨k + 1, by omega, by go_num, HLs, HBs⟩ | ((repeat apply Exists.intro); exact ⟨⟨k + 1, by omega, by go_num, HLs, HBs⟩, rfl⟩)
                      case measure => simp [intOf]; omega
              · have z2 : ((names S d).length : Int) ≤ (k : Int) := by omega
                have HLz := HLk
                have hl3 := (unhide HLz).two.list (((unhide HFS).step _).mono (by omega)) d
                obtain ⟨j1, j2, j3⟩ := len_step (unhide HIv) x hlt
                have hln := names_few ((unhide HFS).step x) d
                generalize (names (step S x) d).length = l1 at hl3 j1 j2 j3 hln
                have J3 := hide j3
                clear j3
                go_wp2_with fail
                refine hl3.mono ?_
                rintro e wz ⟨v3, rfl, ro3, bz⟩
                have HLy := hide ((unhide HLz).grow bz)
                have hv3 : (v3 = .slice none 0 0 ∧ l1 = 0) ∨ ∃ g3 c3, v3 = .slice (some ⟨g3, 0, none⟩) l1 c3 := by
                  rcases ro3.2 with h1 | ⟨g3, c3, cur3, h1, _⟩
                  · exact .inl h1
                  · exact .inr ⟨g3, c3, h1⟩
                clear hl3 ro3 bz
                cases hcc : (cc == 0)
                case true =>
                  have y0 : (cc != 0) = false := by simp [bne, hcc]
                  rcases hv3 with ⟨rfl, rfl⟩ | ⟨g3, c3, rfl⟩
                  all_goals
                    go_wp2
                    go_roundw
                    case rel => first | exact ⟨d + 1, by omega, by go_num, HLy⟩ | ((repeat apply Exists.intro); exact ⟨⟨d + 1, by omega, by go_num, HLy⟩, rfl⟩)
                    case measure => simp [intOf]; omega
                have y0 : (cc != 0) = true := by simp [bne, hcc]
                have hll := unhide J3 (by rw [unhide HCc]; simpa using hcc)
                subst hll
                rcases hv3 with ⟨rfl, h30⟩ | ⟨g3, c3, rfl⟩
                · go_wp2
                  go_roundw
                  case rel => first | exact ⟨d + 1, by omega, by go_num, HLy⟩ | ((repeat apply Exists.intro); exact ⟨⟨d + 1, by omega, by go_num, HLy⟩, rfl⟩)
                  case measure => simp [intOf]; omega
                · go_wp2
                  go_roundw
                  case rel => first | exact ⟨d + 1, by omega, by go_num, HLy⟩ | ((repeat apply Exists.intro); exact ⟨⟨d + 1, by omega, by go_num, HLy⟩, rfl⟩)
                  case measure => simp [intOf]; omega
        · have HBf := hide (unhide HLd).bel
          go_wp2
          go_ret
          exact ⟨rfl, unhide HBf⟩
theorem idealApart_any {w : World} {v : Value} {L : List Stp} (hs : Steps w v L) (x : Stp) (hx : x.ok) :
    Calls Try.prog 8 #[v, .agg (stpA x)] w fun e w' => e = .returned (.bool true) ∧ Below w.heap.size w w' := by
  rcases hs.form with ⟨_, a, c, rfl⟩ | ⟨g, o, c, rfl, _, _⟩
  · exact idealApart_nil hs x hx
  · exact idealApart_some hs x hx
end Idl
end Go.Proofs.Ytgepolkoddhapaa
