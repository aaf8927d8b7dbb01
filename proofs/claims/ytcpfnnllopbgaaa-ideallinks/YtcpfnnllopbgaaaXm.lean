/-
  The walk of eiderdownlaw.IdealLinks.
-/
import Derived.Test.YtcpfnnllopbgaaaXk
namespace Go.Proofs.Ytcpfnnllopbgaaa
open Go.RowKit
namespace Idl
set_option maxHeartbeats 8000000 in
set_option maxRecDepth 100000 in
theorem idealLinks_some {w : World} {L : List Stp} {g o c : Nat} (hs : Steps w (.slice (some ⟨g, o, none⟩) L.length c) L) (p : Int) (text : ByteArray) (htx : text.size ≤ 140737488355328) :
    Calls Try.prog 9 #[(.slice (some ⟨g, o, none⟩) L.length c), .int .i64 p, .string text] w fun e w' => e = .returned (.bool true) ∧ Below w.heap.size w w' := by
  have hbg := begun_any w
  have HG := hide fun W (bW : Below w.heap.size w W) => greatSteps_any (hs.below bW)
  have HSt := hide fun i hi => hs.cells i hi
  have HOk := hide hs.ok
  have hlen := hs.len
  unfold maxLen at hlen
  have hgl : greats L = false → L.length ≤ 200 := fun h => by
    simp only [greats, Bool.or_eq_false_iff, decide_eq_false_iff_not] at h
    omega
  have HGL := hide hgl
  obtain ⟨q, hq2, hmod⟩ := mod2 p
  clear hs hgl
  go_enter Try.func9, Try.ntmps9
  go_wp2_with fail
  refine hbg.mono ?_
  rintro e w1 ⟨rfl, b1⟩
  have B1 := hide b1
  have hg := unhide HG w1 b1
  clear b1 hbg
  cases hgr : greats L <;> rw [hgr] at hg
  case true =>
    clear hgr
    go_wp2_with fail
    refine hg.mono ?_
    rintro e w2 ⟨rfl, b2⟩
    have B2 := hide ((unhide B1).trans (b2.mono (unhide B1).size))
    clear b2 hg
    go_wp2
    go_ret
    exact ⟨rfl, unhide B2⟩
  have h200 := unhide HGL hgr
  clear hgr
  go_wp2_with fail
  refine hg.mono ?_
  rintro e w3 ⟨rfl, b3⟩
  have B3 := hide ((unhide B1).trans (b3.mono (unhide B1).size))
  clear b3 hg
  by_cases ht8 : text.size ≤ 8
  case neg =>
    have z8 : (8 : Int) < (text.size : Int) := by omega
    go_wp2
    go_ret
    exact ⟨rfl, unhide B3⟩
  have z8 : (text.size : Int) ≤ 8 := by omega
  have z9 : decide ((8 : Int) < (text.size : Int)) = false := by simp; omega
  go_wp2_with fail
  refine (New_any _).mono ?_
  rintro e w4 ⟨rfl, e9⟩
  rw [e9]
  clear e9 w4
  have HL := hide (One.new w (unhide B3))
  generalize w3.alloc (Obj.cells #[Value.slice none 0 0, Value.slice none 0 0, Value.slice none 0 0] 89) = w6 at HL ⊢
  go_wp2_with fail
  go_loopw [8] (fun i wr => ∃ (k : Nat) (S : St), k ≤ L.length ∧ i = .int .i64 k ∧ Hid (One w w3.heap.size S wr) ∧ Hid (Few S k)) (fun i _ => L.length - (intOf i).toNat)
  case atStart => exact ⟨0, St.empty, Nat.zero_le _, rfl, HL, few0⟩
  case round =>
    obtain ⟨k, S, hk, rfl, HL0, HF0⟩ := hrel
    clear HL
    by_cases hlt : k < L.length
    · obtain ⟨g', o', c', e1, _, hcc⟩ := unhide HSt k hlt
      simp only [Value.slice.injEq, Option.some.injEq, Addr.mk.injEq] at e1
      obtain ⟨⟨rfl, rfl, _⟩, _, rfl⟩ := e1
      obtain ⟨q0, q1, q2, q3, q4, q5, q6⟩ := hcc _ (unhide HL0).bel
      have hok := unhide HOk _ (List.getElem_mem hlt)
      have hd := (unhide HL0).step ((unhide HF0).mono (by omega)) L[k] hok
      have z1 : (k : Int) < (L.length : Int) := by omega
      clear hcc hok
      go_wp2_with fail
      refine hd.mono ?_
      rintro e w7 ⟨rfl, l7⟩
      have HL8 := hide l7
      clear l7 hd q0 q1 q2 q3 q4 q5 q6
      go_wp2
      go_roundw
      case rel => exact ⟨k + 1, step S L[k], by omega, by go_num, HL8, (unhide HF0).step _⟩
      case measure => simp [intOf]; omega
    · have z1 : (L.length : Int) ≤ (k : Int) := by omega
      have hF0 : Few S 200 := (unhide HF0).mono (by omega)
      clear HF0
      have HFS := hide hF0
      have HIv := hide (unhide HL0).inv
      clear hF0
      go_wp2_with fail
      try simp only [hmod]
      clear hmod
      go_loopw [9] (fun i wr => ∃ d : Nat, d ≤ 3 ∧ i = .int .i64 d ∧ Hid (One w w3.heap.size S wr)) (fun i _ => 3 - (intOf i).toNat)
      case atStart => exact ⟨0, by omega, rfl, HL0⟩
      case round =>
        obtain ⟨d, hd, rfl, HLd⟩ := hrel
        clear HL0
        by_cases hlt : d < 3
        · have z1 : (d : Int) < 3 := by omega
          go_wp2_with fail
          go_loopw [10] (fun i wr => ∃ e : Nat, e ≤ 3 ∧ i = .int .i64 e ∧ Hid (One w w3.heap.size S wr)) (fun i _ => 3 - (intOf i).toNat)
          case atStart => exact ⟨0, by omega, rfl, HLd⟩
          case round =>
            obtain ⟨e, he, rfl, HLe⟩ := hrel
            clear HLd
            by_cases hlte : e < 3
            · have z2 : (e : Int) < 3 := by omega
              have hl1 := (unhide HLe).list ((unhide HFS).mono (by omega)) d
              go_wp2_with fail
              refine hl1.mono ?_
              rintro e0 wa ⟨v1, rfl, ro1, oa, ba⟩
              have hl2 := oa.list ((unhide HFS).mono (by omega)) e
              have RO1 := hide ro1
              clear hl1 ro1 oa ba HLe
              go_wp2_with fail
              refine hl2.mono ?_
              rintro e0 wn ⟨v2, rfl, ro2, ob, bb⟩
              have HLn := hide ob
              have ro1 := ownsRow_of_block (unhide RO1) (fun k hk => bb.block k ((unhide RO1).lt k hk).2)
              have hn1 := names_cell ro1
              have hn2 := names_cell ro2
              have hnl1 := names_few (unhide HFS) d
              have hnl2 := names_few (unhide HFS) e
              clear hl2 ro1 ro2 ob bb RO1
              rcases hn1 with ⟨rfl, en1⟩ | ⟨ga, ca, rfl, gal, kn1⟩
              · clear en1 hn2
                go_wp2_with fail
                go_loopw [13] (fun i wr => i = .int .i64 0 ∧ wr = wn) (fun _ _ => 0)
                case atStart => exact ⟨rfl, rfl⟩
                case round =>
                  obtain ⟨rfl, rfl⟩ := hrel
                  go_wp2_with fail
                  go_roundw
                  case rel => first | exact ⟨e + 1, by omega, by go_num, HLn⟩ | ((repeat apply Exists.intro); exact ⟨⟨e + 1, by omega, by go_num, HLn⟩, rfl⟩)
                  case measure => simp [intOf]; omega
              · have KN1 := hide kn1
                clear kn1
                rcases hn2 with ⟨rfl, en2⟩ | ⟨gb, cb, rfl, gbl, kn2⟩
                · clear en2
                  go_wp2_with fail
                  go_loopw [13] (fun i wr => ∃ ki : Nat, ki ≤ (names S d).length ∧ i = .int .i64 ki ∧ Hid (One w w3.heap.size S wr)) (fun i _ => (names S d).length - (intOf i).toNat)
                  case atStart => exact ⟨0, Nat.zero_le _, rfl, HLn⟩
                  case round =>
                    obtain ⟨ki, hki, rfl, HLv⟩ := hrel
                    by_cases hlti : ki < (names S d).length
                    · have z3 : (ki : Int) < ((names S d).length : Int) := by omega
                      go_wp2_with fail
                      go_loopw [14] (fun i wr2 => i = .int .i64 0 ∧ Hid (One w w3.heap.size S wr2)) (fun _ _ => 0)
                      case atStart => exact ⟨rfl, HLv⟩
                      case round =>
                        obtain ⟨rfl, HLu⟩ := hrel
                        go_wp2_with fail
                        go_roundw
                        case rel => first | exact ⟨ki + 1, by omega, by go_num, HLu⟩ | ((repeat apply Exists.intro); exact ⟨⟨ki + 1, by omega, by go_num, HLu⟩, rfl⟩)
                        case measure => simp [intOf]; omega
                    · have z3 : ((names S d).length : Int) ≤ (ki : Int) := by omega
                      go_wp2_with fail
                      go_roundw
                      case rel => first | exact ⟨e + 1, by omega, by go_num, HLv⟩ | ((repeat apply Exists.intro); exact ⟨⟨e + 1, by omega, by go_num, HLv⟩, rfl⟩)
                      case measure => simp [intOf]; omega
                · have KN2 := hide kn2
                  clear kn2
                  go_wp2_with fail
                  go_loopw [13] (fun i wr => ∃ ki : Nat, ki ≤ (names S d).length ∧ i = .int .i64 ki ∧ Hid (One w w3.heap.size S wr) ∧ Hid (Below wn.heap.size wn wr)) (fun i _ => (names S d).length - (intOf i).toNat)
                  case atStart => exact ⟨0, Nat.zero_le _, rfl, HLn, Below.refl _ _⟩
                  case round =>
                    obtain ⟨ki, hki, rfl, HLi, HBi⟩ := hrel
                    by_cases hlti : ki < (names S d).length
                    · have z3 : (ki : Int) < ((names S d).length : Int) := by omega
                      go_wp2_with fail
                      go_loopw [14] (fun i wr => ∃ kk : Nat, kk ≤ (names S e).length ∧ i = .int .i64 kk ∧ Hid (One w w3.heap.size S wr) ∧ Hid (Below wn.heap.size wn wr)) (fun i _ => (names S e).length - (intOf i).toNat)
                      case atStart => exact ⟨0, Nat.zero_le _, rfl, HLi, HBi⟩
                      case round =>
                        obtain ⟨kk, hkk, rfl, HLk, HBk⟩ := hrel
                        clear HLi HBi
                        by_cases hltk : kk < (names S e).length
                        · have z4 : (kk : Int) < ((names S e).length : Int) := by omega
                          obtain ⟨g1, n1, l1⟩ := listed (unhide HIv) hlt hlti
                          obtain ⟨g2, n2, l2⟩ := listed (unhide HIv) hlte hltk
                          have hdg : d = e → ki = kk → (names S d)[ki] = (names S e)[kk] := fun h1 h2 => by subst h1; subst h2; rfl
                          have m1 := unhide KN1 ki hlti
                          have m2 := unhide KN2 kk hltk
                          generalize (names S d)[ki] = s1 at g1 l1 m1 hdg
                          generalize (names S e)[kk] = s2 at g2 l2 m2 hdg
                          have HDG := hide hdg
                          have HG1 := hide g1
                          have HG2 := hide g2
                          have HN1 := hide l1
                          have HN2 := hide l2
                          have M1 := hide m1
                          have M2 := hide m2
                          clear hdg g1 g2 l1 l2 m1 m2
                          obtain ⟨sm, hsm⟩ : ∃ sm : Bool, sm = same S d s1 e s2 := ⟨_, rfl⟩
                          have hsm2 : same S e s2 d s1 = sm := by rw [hsm, same_comm]
                          have HSMe := hide hsm
                          go_wp2_with fail
                          go_cut [15] (fun s wx => s = .bool sm ∧ Hid (One w w3.heap.size S wx) ∧ Hid (Below wn.heap.size wn wx))
                          case first =>
                            generalize wr = wz at HLk HBk ⊢
                            have hne : Nonempty (Beyond wz) := ⟨⟨wz, Below.refl _ _⟩⟩
                            have HSM := hide fun (p : Beyond wz) => Beyond.call ((((unhide HLk).grow p.h).same ((unhide HFS).mono (by omega)) d s1 e s2).mono fun _ _ h => ⟨h.1, h.2.2⟩)
                            rw [← hsm] at HSM
                            have p1 : ∀ p : Beyond wz, p.W.cell? ⟨ga, ki, none⟩ = some (.string s1) := fun p => (((unhide HBk).trans (p.h.mono (unhide HBk).size)).cell (p := ⟨ga, ki, none⟩) gal).trans (unhide M1)
                            have p2 : ∀ p : Beyond wz, p.W.cell? ⟨gb, kk, none⟩ = some (.string s2) := fun p => (((unhide HBk).trans (p.h.mono (unhide HBk).size)).cell (p := ⟨gb, kk, none⟩) gbl).trans (unhide M2)
                            clear hsm hsm2
                            refine wp_region_beyond (by kernel_rfl) (by kernel_rfl) ?_
                            repeat (go_big_quiet_step ((go_at_call 34; exact unhide HSM _)))
                            refine wpQuiet_nil ?_
                            intro _ hw'
                            obtain ⟨⟨w9, B9⟩, hw''⟩ := hw'
                            subst hw''
                            go_wp2_with fail
                            go_meet
                            exact ⟨rfl, (unhide HLk).grow B9, (unhide HBk).trans (B9.mono (unhide HBk).size)⟩
                          case rest =>
                            obtain ⟨rfl, HLa, HBa⟩ := hcut
                            clear HLk HBk
                            go_wp2_with fail
                            go_cut [121] (fun s wx => s = .bool false ∧ Hid (One w w3.heap.size S wx) ∧ Hid (Below wn.heap.size wn wx))
                            case first =>
                              have hne : Nonempty (Beyond wc) := ⟨⟨wc, Below.refl _ _⟩⟩
                              have HSM := hide fun (p : Beyond wc) => Beyond.call ((((unhide HLa).grow p.h).same ((unhide HFS).mono (by omega)) e s2 d s1).mono fun _ _ h => ⟨h.1, h.2.2⟩)
                              rw [hsm2] at HSM
                              have p1 : ∀ p : Beyond wc, p.W.cell? ⟨ga, ki, none⟩ = some (.string s1) := fun p => (((unhide HBa).trans (p.h.mono (unhide HBa).size)).cell (p := ⟨ga, ki, none⟩) gal).trans (unhide M1)
                              have p2 : ∀ p : Beyond wc, p.W.cell? ⟨gb, kk, none⟩ = some (.string s2) := fun p => (((unhide HBa).trans (p.h.mono (unhide HBa).size)).cell (p := ⟨gb, kk, none⟩) gbl).trans (unhide M2)
                              have hbb : (sm != sm) = false := by simp
                              have hbe : (sm == sm) = true := by simp
                              clear hsm hsm2
                              by_cases hde : d = e
                              · have y1 : ((d : Int) == (e : Int)) = true := beq_iff_eq.2 (by omega)
                                by_cases hik : ki = kk
                                · have y2 : ((ki : Int) == (kk : Int)) = true := beq_iff_eq.2 (by omega)
                                  have ys : sm = true := by
                                    rw [unhide HSMe, ← unhide HDG hde hik, ← hde]
                                    exact same_self hlt (unhide HN1)
                                  have HDE := hide hde
                                  have HIK := hide hik
                                  clear hde hik
                                  subst ys
                                  refine wp_region_beyond (by kernel_rfl) (by kernel_rfl) ?_
                                  repeat (go_big_quiet_step ((go_at_call 34; exact unhide HSM _)))
                                  refine wpQuiet_nil ?_
                                  intro _ hw'
                                  obtain ⟨⟨w9, B9⟩, hw''⟩ := hw'
                                  subst hw''
                                  go_wp2_with fail
                                  go_meet
                                  exact ⟨rfl, (unhide HLa).grow B9, (unhide HBa).trans (B9.mono (unhide HBa).size)⟩
                                · have y2 : ((ki : Int) == (kk : Int)) = false := beq_eq_false_iff_ne.2 (by omega)
                                  have HDE := hide hde
                                  clear hde hik
                                  refine wp_region_beyond (by kernel_rfl) (by kernel_rfl) ?_
                                  repeat (go_big_quiet_step ((go_at_call 34; exact unhide HSM _)))
                                  refine wpQuiet_nil ?_
                                  intro _ hw'
                                  obtain ⟨⟨w9, B9⟩, hw''⟩ := hw'
                                  subst hw''
                                  go_wp2_with fail
                                  go_meet
                                  exact ⟨rfl, (unhide HLa).grow B9, (unhide HBa).trans (B9.mono (unhide HBa).size)⟩
                              · have y1 : ((d : Int) == (e : Int)) = false := beq_eq_false_iff_ne.2 (by omega)
                                clear hde
                                refine wp_region_beyond (by kernel_rfl) (by kernel_rfl) ?_
                                repeat (go_big_quiet_step ((go_at_call 34; exact unhide HSM _)))
                                refine wpQuiet_nil ?_
                                intro _ hw'
                                obtain ⟨⟨w9, B9⟩, hw''⟩ := hw'
                                subst hw''
                                go_wp2_with fail
                                go_meet
                                exact ⟨rfl, (unhide HLa).grow B9, (unhide HBa).trans (B9.mono (unhide HBa).size)⟩
                            case rest =>
                              obtain ⟨rfl, HLb, HBb⟩ := hcut
                              have r1 := (unhide HLb).read ((unhide HFS).mono (by omega)) d s1 (nm_small (unhide HG1)) q
                              have o1 := ((unhide HBb).cell (p := ⟨ga, ki, none⟩) gal).trans (unhide M1)
                              have hsr : sm = true → rdT S d s1 q = rdT S e s2 q ∧ rdB S d s1 q = rdB S e s2 q := fun hh => same_read hlt hlte (unhide HG1) (unhide HG2) (unhide HN1) (unhide HN2) (by rw [← unhide HSMe]; exact hh) hq2
                              have HSR := hide hsr
                              clear HLa HBa hsr hsm hsm2
                              go_wp2_with fail
                              refine r1.mono ?_
                              rintro e0 wf ⟨rfl, of, bf⟩
                              have HLf := hide of
                              have HBf := hide ((unhide HBb).trans (bf.mono (unhide HBb).size))
                              have r2 := of.read ((unhide HFS).mono (by omega)) e s2 (nm_small (unhide HG2)) q
                              have o2 := ((unhide HBf).cell (p := ⟨gb, kk, none⟩) gbl).trans (unhide M2)
                              clear r1 of bf o1 HLb HBb
                              go_wp2_with fail
                              refine r2.mono ?_
                              rintro e0 wg ⟨rfl, og, bg⟩
                              have HLg := hide og
                              have HBg := hide ((unhide HBf).trans (bg.mono (unhide HBf).size))
                              clear r2 og bg o2 HLf HBf
                              cases sm
                              · go_wp2
                                go_roundw
                                case rel => first | exact ⟨kk + 1, by omega, by go_num, HLg, HBg⟩ | ((repeat apply Exists.intro); exact ⟨⟨kk + 1, by omega, by go_num, HLg, HBg⟩, rfl⟩)
                                case measure => simp [intOf]; omega
                              · obtain ⟨t1, t2⟩ := unhide HSR rfl
                                rw [t1, t2]
                                generalize rdT S e s2 q = tx
                                generalize rdB S e s2 q = bx
                                have y1 : (tx.toList == tx.toList) = true := by simp
                                have y2 : (bx == bx) = true := by simp
                                have y3 : (bx != bx) = false := by simp
                                clear t1 t2
                                go_wp2
                                go_roundw
                                case rel => first | exact ⟨kk + 1, by omega, by go_num, HLg, HBg⟩ | ((repeat apply Exists.intro); exact ⟨⟨kk + 1, by omega, by go_num, HLg, HBg⟩, rfl⟩)
                                case measure => simp [intOf]; omega
                        · have z4 : ((names S e).length : Int) ≤ (kk : Int) := by omega
                          go_wp2_with fail
                          go_roundw
                          case rel => first | exact ⟨ki + 1, by omega, by go_num, HLk, HBk⟩ | ((repeat apply Exists.intro); exact ⟨⟨ki + 1, by omega, by go_num, HLk, HBk⟩, rfl⟩)
                          case measure => simp [intOf]; omega
                    · have z3 : ((names S d).length : Int) ≤ (ki : Int) := by omega
                      go_wp2_with fail
                      go_roundw
                      case rel => first | exact ⟨e + 1, by omega, by go_num, HLi⟩ | ((repeat apply Exists.intro); exact ⟨⟨e + 1, by omega, by go_num, HLi⟩, rfl⟩)
                      case measure => simp [intOf]; omega
            · go_wp2_with fail
              go_roundw
              case rel => first | exact ⟨d + 1, by omega, by go_num, HLe⟩ | ((repeat apply Exists.intro); exact ⟨⟨d + 1, by omega, by go_num, HLe⟩, rfl⟩)
              case measure => simp [intOf]; omega
        · skip
          go_wp2_with fail
          go_loopw [22] (fun i wr => ∃ d : Nat, d ≤ 3 ∧ i = .int .i64 d ∧ Hid (One w w3.heap.size S wr)) (fun i _ => 3 - (intOf i).toNat)
          case atStart => exact ⟨0, by omega, rfl, HLd⟩
          case round =>
            clear HLd hlt hd
            obtain ⟨d, hd, rfl, HLd⟩ := hrel
            by_cases hlt : d < 3
            · have z1 : (d : Int) < 3 := by omega
              have hl1 := (unhide HLd).list ((unhide HFS).mono (by omega)) d
              go_wp2_with fail
              refine hl1.mono ?_
              rintro e0 wa ⟨v1, rfl, ro1, oa, ba⟩
              have HLa := hide oa
              have hnc := names_cell ro1
              have hnl := names_few (unhide HFS) d
              have HLp := HLd
              have HBp := hide ba
              have hgp : ∀ k, v1.ownBlock = some k → wr.heap.size ≤ k := fun k hk => (ro1.lt k hk).1
              clear hl1 ro1 oa ba HLd
              rcases hnc with ⟨rfl, en⟩ | ⟨ga, ca, rfl, gal, kn⟩
              · clear en hnl hgp
                go_wp2_with fail
                go_roundw
                case rel => first | exact ⟨d + 1, by omega, by go_num, HLa⟩ | ((repeat apply Exists.intro); exact ⟨⟨d + 1, by omega, by go_num, HLa⟩, rfl⟩)
                case measure => simp [intOf]; omega
              · have HGp := hide (hgp ga rfl)
                clear hgp
                by_cases hz : (names S d).length = 0
                · have y0 : (((names S d).length : Int) == 0) = true := by rw [hz]; rfl
                  clear kn
                  go_wp2_with fail
                  go_roundw
                  case rel => first | exact ⟨d + 1, by omega, by go_num, HLa⟩ | ((repeat apply Exists.intro); exact ⟨⟨d + 1, by omega, by go_num, HLa⟩, rfl⟩)
                  case measure => simp [intOf]; omega
                · have y0 : (((names S d).length : Int) == 0) = false := beq_eq_false_iff_ne.2 (by omega)
                  have z0 : (0 : Int) < ((names S d).length : Int) := by omega
                  have h0 : 0 < (names S d).length := by omega
                  obtain ⟨g1, n1, l1⟩ := listed (unhide HIv) hlt h0
                  have m1 := kn 0 h0
                  generalize (names S d)[0] = s1 at g1 l1 m1
                  obtain ⟨pc, ps⟩ := put_ok hlt g1 l1 hq2 ht8
                  have hok : (putS d s1 q text).ok := ⟨by have := nm_six g1; show s1.size ≤ _; omega, Nat.zero_le _, htx⟩
                  have hdo := One.step_far (unhide HLp) (unhide HBp) (unhide HGp) gal ((unhide HFS).mono (by omega)) (putS d s1 q text) hok
                  rw [pc, ps] at hdo
                  simp only [stpA, putS, none0] at hdo
                  have HPR := hide fun (e : Nat) (he : e < 3) (u : ByteArray) (m : Nat) (hu : Img.isNmB u.toList = true) (h2 : look (S.dir e) u = some m) => put_read (p := q) (t := text) hlt he hu l1 h2 hq2
                  have HFP : Hid (Few (S.put n1 q true text) 200) := unhide HFS
                  have HNP : Hid (∀ e : Nat, names (S.put n1 q true text) e = names S e) := fun _ => rfl
                  have M1 := hide m1
                  clear pc ps hok kn g1 l1
                  generalize S.put n1 q true text = S2 at hdo HPR HFP HNP
                  go_wp2_with fail
                  refine hdo.mono ?_
                  rintro e0 wb ⟨rfl, ob, hgb⟩
                  have HLb := hide ob
                  have Mb : Hid (wb.cell? ⟨ga, 0, none⟩ = some (.string s1) ∧ ga < wb.heap.size) := ⟨(World.cell?_of_block (w := wa) (a := ⟨ga, 0, none⟩) hgb).trans (unhide M1), World.block_lt_of_cell? wb ⟨ga, 0, none⟩ ((World.cell?_of_block (w := wa) (a := ⟨ga, 0, none⟩) hgb).trans (unhide M1))⟩
                  clear hdo ob hgb M1
                  go_wp2_with fail
                  go_loopw [24] (fun i wr => ∃ e : Nat, e ≤ 3 ∧ i = .int .i64 e ∧ Hid (One w w3.heap.size S2 wr) ∧ Hid (Below wb.heap.size wb wr)) (fun i _ => 3 - (intOf i).toNat)
                  case atStart => exact ⟨0, by omega, rfl, HLb, Below.refl _ _⟩
                  case round =>
                    obtain ⟨e, he, rfl, HLe, HBe⟩ := hrel
                    clear HLb
                    by_cases hlte : e < 3
                    · have z2 : (e : Int) < 3 := by omega
                      have hl2 := (unhide HLe).list ((unhide HFP).mono (by omega)) e
                      rw [unhide HNP e] at hl2
                      go_wp2_with fail
                      refine hl2.mono ?_
                      rintro e0 wn ⟨v2, rfl, ro2, on, bn⟩
                      have HLn := hide on
                      have HBn := hide ((unhide HBe).trans (bn.mono (unhide HBe).size))
                      have hn2 := names_cell ro2
                      have hnl2 := names_few (unhide HFS) e
                      clear hl2 ro2 on bn HLe HBe
                      rcases hn2 with ⟨rfl, en2⟩ | ⟨gb, cb, rfl, gbl, kn2⟩
                      · clear en2
                        go_wp2_with fail
                        go_loopw [26] (fun i wr => i = .int .i64 0 ∧ wr = wn) (fun _ _ => 0)
                        case atStart => exact ⟨rfl, rfl⟩
                        case round =>
                          obtain ⟨rfl, rfl⟩ := hrel
                          go_wp2_with fail
                          go_roundw
                          case rel => first | exact ⟨e + 1, by omega, by go_num, HLn, HBn⟩ | ((repeat apply Exists.intro); exact ⟨⟨e + 1, by omega, by go_num, HLn, HBn⟩, rfl⟩)
                          case measure => simp [intOf]; omega
                      · have KN2 := hide kn2
                        clear kn2
                        go_wp2_with fail
                        go_loopw [26] (fun i wr => ∃ kk : Nat, kk ≤ (names S e).length ∧ i = .int .i64 kk ∧ Hid (One w w3.heap.size S2 wr) ∧ Hid (Below wn.heap.size wn wr)) (fun i _ => (names S e).length - (intOf i).toNat)
                        case atStart => exact ⟨0, Nat.zero_le _, rfl, HLn, Below.refl _ _⟩
                        case round =>
                          obtain ⟨kk, hkk, rfl, HLk, HBk⟩ := hrel
                          by_cases hltk : kk < (names S e).length
                          · have z4 : (kk : Int) < ((names S e).length : Int) := by omega
                            obtain ⟨g2, n2, l2⟩ := listed (unhide HIv) hlte hltk
                            have m2 := unhide KN2 kk hltk
                            generalize (names S e)[kk] = s2 at g2 l2 m2
                            obtain ⟨rc, rt⟩ := unhide HPR e hlte s2 n2 g2 l2
                            have r1 := (unhide HLk).read ((unhide HFP).mono (by omega)) e s2 (nm_small g2) q
                            rw [rc] at r1
                            have o1 := ((unhide HBk).cell (p := ⟨gb, kk, none⟩) gbl).trans m2
                            have M2 := hide m2
                            have RT := hide rt
                            clear rc rt g2 l2 m2
                            generalize rdT S2 e s2 q = tx at r1 RT
                            generalize rdB S2 e s2 q = bx at r1 RT
                            go_wp2_with fail
                            refine r1.mono ?_
                            rintro e0 wf ⟨rfl, of, bf⟩
                            have HLf := hide of
                            have HBf := hide ((unhide HBk).trans (bf.mono (unhide HBk).size))
                            clear r1 of bf o1 HLk HBk
                            go_wp2_with fail
                            go_cut [225] (fun s wx => s = .bool false ∧ Hid (One w w3.heap.size S2 wx) ∧ Hid (Below wn.heap.size wn wx))
                            case first =>
                              have hne : Nonempty (Beyond wf) := ⟨⟨wf, Below.refl _ _⟩⟩
                              have HSM := hide fun (p : Beyond wf) => Beyond.call ((((unhide HLf).grow p.h).same ((unhide HFP).mono (by omega)) d s1 e s2).mono fun _ _ h => ⟨h.1, h.2.2⟩)
                              have p1 : ∀ p : Beyond wf, p.W.cell? ⟨ga, 0, none⟩ = some (.string s1) := fun p => (((unhide HBn).trans (((unhide HBf).trans (p.h.mono (unhide HBf).size)).mono (unhide HBn).size)).cell (p := ⟨ga, 0, none⟩) (unhide Mb).2).trans (unhide Mb).1
                              have p2 : ∀ p : Beyond wf, p.W.cell? ⟨gb, kk, none⟩ = some (.string s2) := fun p => (((unhide HBf).trans (p.h.mono (unhide HBf).size)).cell (p := ⟨gb, kk, none⟩) gbl).trans (unhide M2)
                              cases hsm : same S2 d s1 e s2 <;> rw [hsm] at HSM RT
                              · clear hsm
                                refine wp_region_beyond (by kernel_rfl) (by kernel_rfl) ?_
                                repeat (go_big_quiet_step ((go_at_call 34; exact unhide HSM _)))
                                refine wpQuiet_nil ?_
                                intro _ hw'
                                obtain ⟨⟨w9, B9⟩, hw''⟩ := hw'
                                subst hw''
                                go_wp2_with fail
                                go_meet
                                exact ⟨rfl, (unhide HLf).grow B9, (unhide HBf).trans (B9.mono (unhide HBf).size)⟩
                              · clear hsm
                                obtain ⟨rfl, rfl⟩ := unhide RT rfl
                                have y1 : (tx.toList == tx.toList) = true := by simp
                                refine wp_region_beyond (by kernel_rfl) (by kernel_rfl) ?_
                                repeat (go_big_quiet_step ((go_at_call 34; exact unhide HSM _)))
                                refine wpQuiet_nil ?_
                                intro _ hw'
                                obtain ⟨⟨w9, B9⟩, hw''⟩ := hw'
                                subst hw''
                                go_wp2_with fail
                                go_meet
                                exact ⟨rfl, (unhide HLf).grow B9, (unhide HBf).trans (B9.mono (unhide HBf).size)⟩
                            case rest =>
                              obtain ⟨rfl, HLg, HBg⟩ := hcut
                              go_wp2_with fail
                              go_roundw
                              case rel => first | exact ⟨kk + 1, by omega, by go_num, HLg, HBg⟩ | ((repeat apply Exists.intro); exact ⟨⟨kk + 1, by omega, by go_num, HLg, HBg⟩, rfl⟩)
                              case measure => simp [intOf]; omega
                          · have z4 : ((names S e).length : Int) ≤ (kk : Int) := by omega
                            have HBz := hide ((unhide HBn).trans ((unhide HBk).mono (unhide HBn).size))
                            go_wp2_with fail
                            go_roundw
                            case rel => first | exact ⟨e + 1, by omega, by go_num, HLk, HBz⟩ | ((repeat apply Exists.intro); exact ⟨⟨e + 1, by omega, by go_num, HLk, HBz⟩, rfl⟩)
                            case measure => simp [intOf]; omega
                    · have HBf := hide (unhide HLe).bel
                      go_wp2
                      go_ret
                      exact ⟨rfl, unhide HBf⟩
            · have HBf := hide (unhide HLd).bel
              go_wp2
              go_ret
              exact ⟨rfl, unhide HBf⟩
end Idl
end Go.Proofs.Ytcpfnnllopbgaaa
