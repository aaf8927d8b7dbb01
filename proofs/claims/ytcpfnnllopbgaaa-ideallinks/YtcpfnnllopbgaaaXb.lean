/-
  The walk of eiderdownlaw.IdealBack.
-/
import Derived.Test.YtcpfnnllopbgaaaVs
import Derived.Test.YtcpfnnllopbgaaaIc
namespace Go.Proofs.Ytcpfnnllopbgaaa
open Go.RowKit
namespace Idl
theorem nm_small {s : ByteArray} (h : Img.isNmB s.toList = true) : s.size ≤ maxLen := by
  rw [isNmB_eq] at h
  simp only [Bool.and_eq_true, decide_eq_true_eq] at h
  unfold maxLen; omega
theorem names_small {S : St} (h : Inv S) {d : Nat} (hd : d < 3) {i : Nat} (hi : i < (names S d).length) : (names S d)[i].size ≤ maxLen := by
  obtain ⟨n, hm⟩ := names_mem hd hi
  exact nm_small (h.good d _ hm)
theorem names_few {S : St} {n : Nat} (h : Few S n) (d : Nat) : (names S d).length ≤ n := by
  unfold names
  split
  · rw [List.length_map]; exact h _
  · exact Nat.zero_le _
theorem Stp.ok.kind {x : Stp} (h : x.ok) (k : Int) : ({ x with kind := k } : Stp).ok := ⟨h.name, h.to, h.text⟩
theorem back_ok {x : Stp} (h : x.ok) : (back x).ok := ⟨h.to, h.name, Nat.zero_le _⟩
theorem unl_ok {x : Stp} (h : x.ok) : (unl x).ok := ⟨h.to, Nat.zero_le _, Nat.zero_le _⟩
set_option maxHeartbeats 8000000 in
set_option maxRecDepth 100000 in
theorem idealBack_any {w : World} {v : Value} {L : List Stp} (hs : Steps w v L) (x : Stp) (hx : x.ok) :
    Calls Try.prog 7 #[v, .agg (stpA x)] w fun e w' => e = .returned (.bool true) ∧ Below w.heap.size w w' := by
  have b0 : Below w.heap.size w (w.alloc (.cells (stpA x) 49)) := (Below.refl _ w).alloc (Nat.le_refl _) _
  have hbg := begun_any (w.alloc (.cells (stpA x) 49))
  have HG := hide fun W (bW : Below w.heap.size w W) => greatSteps_any (hs.below bW)
  have HX := hide fun W => greatStep_any x hx W
  have HC := hide fun W bW => stp_kept w x W bW
  have HB0 := hide b0
  have HSt := hide fun i hi => hs.cells i hi
  have HOk := hide hs.ok
  have HXo := hide hx
  have hform := hs.form
  have hlen := hs.len
  unfold maxLen at hlen
  have hgl : greats L = false → L.length ≤ 200 := fun h => by
    simp only [greats, Bool.or_eq_false_iff, decide_eq_false_iff_not] at h
    omega
  have HGL := hide hgl
  clear hs hx b0 hgl
  rcases hform with ⟨_, a, c, rfl⟩ | ⟨g, o, c, rfl, hgw, _⟩
  · go_enter Try.func7, Try.ntmps7
    go_wp2_with fail
    refine hbg.mono ?_
    rintro e w1 ⟨rfl, b1⟩
    have B1 := hide ((unhide HB0).trans (b1.mono (by simp)))
    have A1 := hide b1
    have hg := unhide HG w1 (unhide B1)
    clear b1 hbg
    cases hgr : greats L <;> rw [hgr] at hg
    case true =>
      clear hgr
      go_wp2_with fail
      refine hg.mono ?_
      rintro e w2 ⟨rfl, b2⟩
      have B2 := hide ((unhide B1).trans (b2.mono (unhide B1).size))
      clear b2 hg
      go_wp2
      go_ret
      exact ⟨rfl, unhide B2⟩
    have h200 := unhide HGL hgr
    clear hgr
    go_wp2_with fail
    refine hg.mono ?_
    rintro e w2 ⟨rfl, b2⟩
    have B2 := hide ((unhide B1).trans (b2.mono (unhide B1).size))
    have A2 := hide ((unhide A1).trans (b2.mono (unhide A1).size))
    have q0 := unhide HC w2 (unhide A2) 0 _ rfl
    have q1 := unhide HC w2 (unhide A2) 1 _ rfl
    have q2 := unhide HC w2 (unhide A2) 2 _ rfl
    have q3 := unhide HC w2 (unhide A2) 3 _ rfl
    have q4 := unhide HC w2 (unhide A2) 4 _ rfl
    have q5 := unhide HC w2 (unhide A2) 5 _ rfl
    have q6 := unhide HC w2 (unhide A2) 6 _ rfl
    have hgx := unhide HX w2
    clear b2 hg
    cases hgr : great x <;> rw [hgr] at hgx
    case true =>
      clear hgr
      go_wp2_with fail
      refine hgx.mono ?_
      rintro e w3 ⟨rfl, b3⟩
      have B3 := hide ((unhide B2).trans (b3.mono (unhide B2).size))
      clear b3 hgx
      go_wp2
      go_ret
      exact ⟨rfl, unhide B3⟩
    clear hgr
    go_wp2_with fail
    refine hgx.mono ?_
    rintro e w3 ⟨rfl, b3⟩
    have A3 := hide ((unhide A2).trans (b3.mono (unhide A2).size))
    clear b3 hgx q0 q1 q2 q3 q4 q5 q6
    go_wp2_with fail
    refine (New_any _).mono ?_
    rintro e w4 ⟨rfl, e9⟩
    rw [e9]
    clear e9 w4
    go_wp2_with fail
    refine (New_any _).mono ?_
    rintro e w5 ⟨rfl, e9⟩
    rw [e9]
    clear e9 w5
    have hL := Lw.start (w := w) (x := x) (unhide A3)
    have e1 : (w3.alloc nw).heap.size = w3.heap.size + 1 := by simp
    rw [e1] at hL
    unfold nw at hL
    have HL := hide hL
    clear hL e1
    rw [show (w3.alloc (Obj.cells #[Value.slice none 0 0, Value.slice none 0 0, Value.slice none 0 0] 89)).heap.size = w3.heap.size + 1 from by simp]
    generalize (w3.alloc (Obj.cells #[Value.slice none 0 0, Value.slice none 0 0, Value.slice none 0 0] 89)).alloc (Obj.cells #[Value.slice none 0 0, Value.slice none 0 0, Value.slice none 0 0] 89) = w6 at HL ⊢
    go_wp2_with fail
    go_loopw [7] (fun i wr => i = .int .i64 0 ∧ wr = w6) (fun _ _ => 0)
    case atStart => exact ⟨rfl, rfl⟩
    case round =>
      obtain ⟨rfl, rfl⟩ := hrel
      have hF0 : Few St.empty 200 := few0.mono (by omega)
      have HL0 := HL
      generalize St.empty = S at HL0 hF0
      clear HL
      have HFS := hide hF0
      have HIv := hide (unhide HL0).two.inv.1
      have c0 := (unhide HL0).box 0 _ rfl
      have c1 := (unhide HL0).box 1 _ rfl
      have c2 := (unhide HL0).box 2 _ rfl
      have c3 := (unhide HL0).box 3 _ rfl
      have c4 := (unhide HL0).box 4 _ rfl
      have c5 := (unhide HL0).box 5 _ rfl
      have c6 := (unhide HL0).box 6 _ rfl
      have cf := (unhide HL0).free 0
      have hdo := ((unhide HL0).put 4).step ((unhide HFS).mono (by omega)) { x with kind := 4 } ((unhide HXo).kind 4)
      simp only [stpA] at hdo
      clear hF0
      by_cases hc : code S { x with kind := 4 } = 0
      · obtain ⟨k2, k3⟩ := rename_back (unhide HIv) { x with kind := 4 } rfl hc
        have hbk := fun W (l : Lw w w3.heap.size (w3.heap.size + 1) { x with kind := 4 } (step S { x with kind := 4 }) S W) => l.step (((unhide HFS).step _).mono (by omega)) (back { x with kind := 4 }) (back_ok ((unhide HXo).kind 4))
        rw [k2, k3] at hbk
        simp only [stpA, back, none0] at hbk
        rw [hc] at hdo
        have HBk := hide hbk
        clear hc k2 k3 hbk
        go_wp2_with fail
        refine hdo.mono ?_
        rintro e wp ⟨rfl, lp⟩
        have t1 := lp.box 1 _ rfl
        have t2 := lp.box 2 _ rfl
        have t4 := lp.box 4 _ rfl
        have t5 := lp.box 5 _ rfl
        try simp only at t1 t2 t4 t5
        have hq := unhide HBk _ (lp.grow ((Below.refl _ _).alloc (Nat.le_refl _) (.cells #[.int .i64 4, .int .i64 x.toDir, .int .i64 x.dir, .int .i64 0, .string x.to, .string x.name, .string ⟨#[]⟩] 49)))
        clear lp hdo c0 c1 c2 c3 c4 c5 c6 cf HL0
        go_wp2_with fail
        refine hq.mono ?_
        rintro e wq0 ⟨rfl, lq0⟩
        have HLg := hide lq0
        clear hq lq0 t1 t2 t4 t5
        have u0 := (unhide HLg).box 0 _ rfl
        have u1 := (unhide HLg).box 1 _ rfl
        have u2 := (unhide HLg).box 2 _ rfl
        have u3 := (unhide HLg).box 3 _ rfl
        have u4 := (unhide HLg).box 4 _ rfl
        have u5 := (unhide HLg).box 5 _ rfl
        have u6 := (unhide HLg).box 6 _ rfl
        have uf := (unhide HLg).free 0
        try simp only at u0 u1 u2 u3 u4 u5 u6
        have hdo := ((unhide HLg).put 2).step ((unhide HFS).mono (by omega)) { x with kind := 2 } ((unhide HXo).kind 2)
        simp only [stpA] at hdo
        by_cases hc2 : code S { x with kind := 2 } = 0
        · obtain ⟨k1, k2, k3⟩ := link_back (unhide HIv) { x with kind := 2 } rfl hc2
          have hsm := fun W (l : Lw w w3.heap.size (w3.heap.size + 1) { x with kind := 2 } (step S { x with kind := 2 }) S W) => l.two.same (((unhide HFS).step _).mono (by omega)) x.dir x.name x.toDir x.to
          have hun := fun W (l : Lw w w3.heap.size (w3.heap.size + 1) { x with kind := 2 } (step S { x with kind := 2 }) S W) => l.step (((unhide HFS).step _).mono (by omega)) (unl { x with kind := 2 }) (unl_ok ((unhide HXo).kind 2))
          try simp only at k1
          rw [k1] at hsm
          rw [k2, k3] at hun
          simp only [stpA, unl, none0] at hun
          rw [hc2] at hdo
          have HSm := hide hsm
          have HUn := hide hun
          clear hc2 k1 k2 k3 hsm hun
          go_wp2_with fail
          refine hdo.mono ?_
          rintro e wq ⟨rfl, lq⟩
          have hq := unhide HSm wq lq
          have t1 := lq.box 1 _ rfl
          have t2 := lq.box 2 _ rfl
          have t4 := lq.box 4 _ rfl
          have t5 := lq.box 5 _ rfl
          try simp only at t1 t2 t4 t5
          have LQ := hide lq
          clear lq hdo u0 u1 u2 u3 u4 u5 u6 uf
          go_wp2_with fail
          refine hq.mono ?_
          rintro e wr2 ⟨rfl, br⟩
          have lr := (unhide LQ).grow br
          have hq2 := unhide HUn wr2 lr
          have t1' := lr.box 1 _ rfl
          have t2' := lr.box 2 _ rfl
          have t4' := lr.box 4 _ rfl
          have t5' := lr.box 5 _ rfl
          try simp only at t1' t2' t4' t5'
          clear hq br lr LQ t1 t2 t4 t5
          go_wp2_with fail
          refine hq2.mono ?_
          rintro e ws ⟨rfl, ls⟩
          have HLf := hide ls
          clear hq2 ls t1' t2' t4' t5'
          go_wp2_with fail
          go_loopw [9] (fun i wr => ∃ d : Nat, d ≤ 3 ∧ i = .int .i64 d ∧ Hid (Lw w w3.heap.size (w3.heap.size + 1) { x with kind := 2 } S S wr)) (fun i _ => 3 - (intOf i).toNat)
          case atStart => exact ⟨0, by omega, rfl, HLf⟩
          case round =>
            obtain ⟨d, hd, rfl, HLd⟩ := hrel
            clear HLf
            by_cases hlt : d < 3
            · have hl1 := (unhide HLd).two.list ((unhide HFS).mono (by omega)) d
              have z1 : (d : Int) < 3 := by omega
              go_wp2_with fail
              refine hl1.mono ?_
              rintro e wa ⟨v1, rfl, ro1, ba⟩
              have HLa := hide ((unhide HLd).grow ba)
              have RO1 := hide ro1
              have hl2 := (unhide HLa).two.flip.list ((unhide HFS).mono (by omega)) d
              clear hl1 ro1 ba HLd
              go_wp2_with fail
              refine hl2.mono ?_
              rintro e wb ⟨v2, rfl, ro2, bb⟩
              have HLb := hide ((unhide HLa).grow bb)
              have ro1 := ownsRow_of_block (unhide RO1) (fun k hk => bb.block k ((unhide RO1).lt k hk).2)
              have hst := SameTexts_any ro1 ro2 (Nat.le_trans (names_few (unhide HFS) d) (by omega))
              have RB := hide ro1
              clear hl2 ro1 ro2 bb HLa RO1
              go_wp2_with fail
              refine hst.mono ?_
              rintro e wc ⟨rfl, bc⟩
              have HLc := hide ((unhide HLb).grow bc)
              have ro1 := ownsRow_of_block (unhide RB) (fun k hk => bc.block k ((unhide RB).lt k hk).2)
              have hnc := names_cell ro1
              have hnl := names_few (unhide HFS) d
              clear hst ro1 bc HLb RB
              rcases hnc with ⟨rfl, en⟩ | ⟨gn, cn, rfl, gnl, kn⟩
              · clear en hnl
                go_wp2_with fail
                go_loopw [11] (fun i wr => i = .int .i64 0 ∧ wr = wc) (fun _ _ => 0)
                case atStart => exact ⟨rfl, rfl⟩
                case round =>
                  obtain ⟨rfl, rfl⟩ := hrel
                  go_wp2_with fail
                  go_roundw
                  case rel => exact ⟨d + 1, by omega, by go_num, HLc⟩
                  case measure => simp [intOf]; omega
              · have KN := hide kn
                clear kn
                go_wp2_with fail
                go_loopw [11] (fun i wr => ∃ k : Nat, k ≤ (names S d).length ∧ i = .int .i64 k ∧ Hid (Lw w w3.heap.size (w3.heap.size + 1) { x with kind := 2 } S S wr) ∧ Hid (Below wc.heap.size wc wr)) (fun i _ => (names S d).length - (intOf i).toNat)
                case atStart => exact ⟨0, Nat.zero_le _, rfl, HLc, Below.refl _ _⟩
                case round =>
                  obtain ⟨k, hk, rfl, HLk, HBk⟩ := hrel
                  by_cases hltk : k < (names S d).length
                  · have z2 : (k : Int) < ((names S d).length : Int) := by omega
                    have KK := hide (unhide KN k hltk)
                    have RK := hide fun (p : Nat) (hp : p < 2) => read_ok (unhide HIv) hlt hltk p hp
                    have SK := hide (names_small (unhide HIv) hlt hltk)
                    generalize (names S d)[k] = nm at KK RK SK
                    go_wp2_with fail
                    go_loopw [12] (fun i wr => ∃ p : Nat, p ≤ 2 ∧ i = .int .i64 p ∧ Hid (Lw w w3.heap.size (w3.heap.size + 1) { x with kind := 2 } S S wr) ∧ Hid (Below wc.heap.size wc wr)) (fun i _ => 2 - (intOf i).toNat)
                    case atStart => exact ⟨0, by omega, rfl, HLk, HBk⟩
                    case round =>
                      obtain ⟨p, hp, rfl, HLp, HBp⟩ := hrel
                      by_cases hltp : p < 2
                      · have z3 : (p : Int) < 2 := by omega
                        have n1 := ((unhide HBp).cell (p := ⟨gn, k, none⟩) gnl).trans (unhide KK)
                        have hr1 := (unhide HLp).two.read ((unhide HFS).mono (by omega)) d nm (unhide SK) p
                        rw [unhide RK p hltp] at hr1
                        go_wp2_with fail
                        refine hr1.mono ?_
                        rintro e wd ⟨rfl, bd⟩
                        have HLq := hide ((unhide HLp).grow bd)
                        have HBq := hide ((unhide HBp).trans (bd.mono (unhide HBp).size))
                        have n2 := ((unhide HBq).cell (p := ⟨gn, k, none⟩) gnl).trans (unhide KK)
                        have hr2 := (unhide HLq).two.flip.read ((unhide HFS).mono (by omega)) d nm (unhide SK) p
                        rw [unhide RK p hltp] at hr2
                        generalize rdT S d nm p = tx at hr2 ⊢
                        generalize rdB S d nm p = bx at hr2 ⊢
                        have y1 : (tx.toList == tx.toList) = true := by simp
                        have y2 : (bx == bx) = true := by simp
                        have y3 : (bx != bx) = false := by simp
                        clear hr1 bd n1
                        go_wp2_with fail
                        refine hr2.mono ?_
                        rintro e we ⟨rfl, be⟩
                        have HLe := hide ((unhide HLq).grow be)
                        have HBe := hide ((unhide HBq).trans (be.mono (unhide HBq).size))
                        clear hr2 be n2
                        go_wp2
                        go_roundw
                        case rel => exact ⟨p + 1, by omega, by go_num, HLe, HBe⟩
                        case measure => simp [intOf]; omega
                      · go_wp2_with fail
                        go_roundw
                        case rel => exact ⟨k + 1, by omega, by go_num, HLp, HBp⟩
                        case measure => simp [intOf]; omega
                  · have z2 : ((names S d).length : Int) ≤ (k : Int) := by omega
                    go_wp2_with fail
                    go_roundw
                    case rel => exact ⟨d + 1, by omega, by go_num, HLk⟩
                    case measure => simp [intOf]; omega
            · have HBf := hide (unhide HLd).bel
              go_wp2
              go_ret
              exact ⟨rfl, unhide HBf⟩
        · have hne : (code S { x with kind := 2 } == 0) = false := by simpa using hc2
          have hst : step S { x with kind := 2 } = S := by simp [step, hc2]
          rw [hst] at hdo
          generalize code S { x with kind := 2 } = c2 at hdo hne
          clear hst hc2
          go_wp2_with fail
          refine hdo.mono ?_
          rintro e wq ⟨rfl, lq⟩
          have HLf := hide lq
          clear hdo lq u0 u1 u2 u3 u4 u5 u6 uf
          go_wp2_with fail
          go_loopw [9] (fun i wr => ∃ d : Nat, d ≤ 3 ∧ i = .int .i64 d ∧ Hid (Lw w w3.heap.size (w3.heap.size + 1) { x with kind := 2 } S S wr)) (fun i _ => 3 - (intOf i).toNat)
          case atStart => exact ⟨0, by omega, rfl, HLf⟩
          case round =>
            obtain ⟨d, hd, rfl, HLd⟩ := hrel
            clear HLf
            by_cases hlt : d < 3
            · have hl1 := (unhide HLd).two.list ((unhide HFS).mono (by omega)) d
              have z1 : (d : Int) < 3 := by omega
              go_wp2_with fail
              refine hl1.mono ?_
              rintro e wa ⟨v1, rfl, ro1, ba⟩
              have HLa := hide ((unhide HLd).grow ba)
              have RO1 := hide ro1
              have hl2 := (unhide HLa).two.flip.list ((unhide HFS).mono (by omega)) d
              clear hl1 ro1 ba HLd
              go_wp2_with fail
              refine hl2.mono ?_
              rintro e wb ⟨v2, rfl, ro2, bb⟩
              have HLb := hide ((unhide HLa).grow bb)
              have ro1 := ownsRow_of_block (unhide RO1) (fun k hk => bb.block k ((unhide RO1).lt k hk).2)
              have hst := SameTexts_any ro1 ro2 (Nat.le_trans (names_few (unhide HFS) d) (by omega))
              have RB := hide ro1
              clear hl2 ro1 ro2 bb HLa RO1
              go_wp2_with fail
              refine hst.mono ?_
              rintro e wc ⟨rfl, bc⟩
              have HLc := hide ((unhide HLb).grow bc)
              have ro1 := ownsRow_of_block (unhide RB) (fun k hk => bc.block k ((unhide RB).lt k hk).2)
              have hnc := names_cell ro1
              have hnl := names_few (unhide HFS) d
              clear hst ro1 bc HLb RB
              rcases hnc with ⟨rfl, en⟩ | ⟨gn, cn, rfl, gnl, kn⟩
              · clear en hnl
                go_wp2_with fail
                go_loopw [11] (fun i wr => i = .int .i64 0 ∧ wr = wc) (fun _ _ => 0)
                case atStart => exact ⟨rfl, rfl⟩
                case round =>
                  obtain ⟨rfl, rfl⟩ := hrel
                  go_wp2_with fail
                  go_roundw
                  case rel => exact ⟨d + 1, by omega, by go_num, HLc⟩
                  case measure => simp [intOf]; omega
              · have KN := hide kn
                clear kn
                go_wp2_with fail
                go_loopw [11] (fun i wr => ∃ k : Nat, k ≤ (names S d).length ∧ i = .int .i64 k ∧ Hid (Lw w w3.heap.size (w3.heap.size + 1) { x with kind := 2 } S S wr) ∧ Hid (Below wc.heap.size wc wr)) (fun i _ => (names S d).length - (intOf i).toNat)
                case atStart => exact ⟨0, Nat.zero_le _, rfl, HLc, Below.refl _ _⟩
                case round =>
                  obtain ⟨k, hk, rfl, HLk, HBk⟩ := hrel
                  by_cases hltk : k < (names S d).length
                  · have z2 : (k : Int) < ((names S d).length : Int) := by omega
                    have KK := hide (unhide KN k hltk)
                    have RK := hide fun (p : Nat) (hp : p < 2) => read_ok (unhide HIv) hlt hltk p hp
                    have SK := hide (names_small (unhide HIv) hlt hltk)
                    generalize (names S d)[k] = nm at KK RK SK
                    go_wp2_with fail
                    go_loopw [12] (fun i wr => ∃ p : Nat, p ≤ 2 ∧ i = .int .i64 p ∧ Hid (Lw w w3.heap.size (w3.heap.size + 1) { x with kind := 2 } S S wr) ∧ Hid (Below wc.heap.size wc wr)) (fun i _ => 2 - (intOf i).toNat)
                    case atStart => exact ⟨0, by omega, rfl, HLk, HBk⟩
                    case round =>
                      obtain ⟨p, hp, rfl, HLp, HBp⟩ := hrel
                      by_cases hltp : p < 2
                      · have z3 : (p : Int) < 2 := by omega
                        have n1 := ((unhide HBp).cell (p := ⟨gn, k, none⟩) gnl).trans (unhide KK)
                        have hr1 := (unhide HLp).two.read ((unhide HFS).mono (by omega)) d nm (unhide SK) p
                        rw [unhide RK p hltp] at hr1
                        go_wp2_with fail
                        refine hr1.mono ?_
                        rintro e wd ⟨rfl, bd⟩
                        have HLq := hide ((unhide HLp).grow bd)
                        have HBq := hide ((unhide HBp).trans (bd.mono (unhide HBp).size))
                        have n2 := ((unhide HBq).cell (p := ⟨gn, k, none⟩) gnl).trans (unhide KK)
                        have hr2 := (unhide HLq).two.flip.read ((unhide HFS).mono (by omega)) d nm (unhide SK) p
                        rw [unhide RK p hltp] at hr2
                        generalize rdT S d nm p = tx at hr2 ⊢
                        generalize rdB S d nm p = bx at hr2 ⊢
                        have y1 : (tx.toList == tx.toList) = true := by simp
                        have y2 : (bx == bx) = true := by simp
                        have y3 : (bx != bx) = false := by simp
                        clear hr1 bd n1
                        go_wp2_with fail
                        refine hr2.mono ?_
                        rintro e we ⟨rfl, be⟩
                        have HLe := hide ((unhide HLq).grow be)
                        have HBe := hide ((unhide HBq).trans (be.mono (unhide HBq).size))
                        clear hr2 be n2
                        go_wp2
                        go_roundw
                        case rel => exact ⟨p + 1, by omega, by go_num, HLe, HBe⟩
                        case measure => simp [intOf]; omega
                      · go_wp2_with fail
                        go_roundw
                        case rel => exact ⟨k + 1, by omega, by go_num, HLp, HBp⟩
                        case measure => simp [intOf]; omega
                  · have z2 : ((names S d).length : Int) ≤ (k : Int) := by omega
                    go_wp2_with fail
                    go_roundw
                    case rel => exact ⟨d + 1, by omega, by go_num, HLk⟩
                    case measure => simp [intOf]; omega
            · have HBf := hide (unhide HLd).bel
              go_wp2
              go_ret
              exact ⟨rfl, unhide HBf⟩
      · have hne : (code S { x with kind := 4 } == 0) = false := by simpa using hc
        have hst : step S { x with kind := 4 } = S := by simp [step, hc]
        rw [hst] at hdo
        generalize code S { x with kind := 4 } = cc at hdo hne
        clear hst hc
        go_wp2_with fail
        refine hdo.mono ?_
        rintro e wq0 ⟨rfl, lq0⟩
        have HLg := hide lq0
        clear hdo lq0 c0 c1 c2 c3 c4 c5 c6 cf HL0
        have u0 := (unhide HLg).box 0 _ rfl
        have u1 := (unhide HLg).box 1 _ rfl
        have u2 := (unhide HLg).box 2 _ rfl
        have u3 := (unhide HLg).box 3 _ rfl
        have u4 := (unhide HLg).box 4 _ rfl
        have u5 := (unhide HLg).box 5 _ rfl
        have u6 := (unhide HLg).box 6 _ rfl
        have uf := (unhide HLg).free 0
        try simp only at u0 u1 u2 u3 u4 u5 u6
        have hdo := ((unhide HLg).put 2).step ((unhide HFS).mono (by omega)) { x with kind := 2 } ((unhide HXo).kind 2)
        simp only [stpA] at hdo
        by_cases hc2 : code S { x with kind := 2 } = 0
        · obtain ⟨k1, k2, k3⟩ := link_back (unhide HIv) { x with kind := 2 } rfl hc2
          have hsm := fun W (l : Lw w w3.heap.size (w3.heap.size + 1) { x with kind := 2 } (step S { x with kind := 2 }) S W) => l.two.same (((unhide HFS).step _).mono (by omega)) x.dir x.name x.toDir x.to
          have hun := fun W (l : Lw w w3.heap.size (w3.heap.size + 1) { x with kind := 2 } (step S { x with kind := 2 }) S W) => l.step (((unhide HFS).step _).mono (by omega)) (unl { x with kind := 2 }) (unl_ok ((unhide HXo).kind 2))
          try simp only at k1
          rw [k1] at hsm
          rw [k2, k3] at hun
          simp only [stpA, unl, none0] at hun
          rw [hc2] at hdo
          have HSm := hide hsm
          have HUn := hide hun
          clear hc2 k1 k2 k3 hsm hun
          go_wp2_with fail
          refine hdo.mono ?_
          rintro e wq ⟨rfl, lq⟩
          have hq := unhide HSm wq lq
          have t1 := lq.box 1 _ rfl
          have t2 := lq.box 2 _ rfl
          have t4 := lq.box 4 _ rfl
          have t5 := lq.box 5 _ rfl
          try simp only at t1 t2 t4 t5
          have LQ := hide lq
          clear lq hdo u0 u1 u2 u3 u4 u5 u6 uf
          go_wp2_with fail
          refine hq.mono ?_
          rintro e wr2 ⟨rfl, br⟩
          have lr := (unhide LQ).grow br
          have hq2 := unhide HUn wr2 lr
          have t1' := lr.box 1 _ rfl
          have t2' := lr.box 2 _ rfl
          have t4' := lr.box 4 _ rfl
          have t5' := lr.box 5 _ rfl
          try simp only at t1' t2' t4' t5'
          clear hq br lr LQ t1 t2 t4 t5
          go_wp2_with fail
          refine hq2.mono ?_
          rintro e ws ⟨rfl, ls⟩
          have HLf := hide ls
          clear hq2 ls t1' t2' t4' t5'
          go_wp2_with fail
          go_loopw [9] (fun i wr => ∃ d : Nat, d ≤ 3 ∧ i = .int .i64 d ∧ Hid (Lw w w3.heap.size (w3.heap.size + 1) { x with kind := 2 } S S wr)) (fun i _ => 3 - (intOf i).toNat)
          case atStart => exact ⟨0, by omega, rfl, HLf⟩
          case round =>
            obtain ⟨d, hd, rfl, HLd⟩ := hrel
            clear HLf
            by_cases hlt : d < 3
            · have hl1 := (unhide HLd).two.list ((unhide HFS).mono (by omega)) d
              have z1 : (d : Int) < 3 := by omega
              go_wp2_with fail
              refine hl1.mono ?_
              rintro e wa ⟨v1, rfl, ro1, ba⟩
              have HLa := hide ((unhide HLd).grow ba)
              have RO1 := hide ro1
              have hl2 := (unhide HLa).two.flip.list ((unhide HFS).mono (by omega)) d
              clear hl1 ro1 ba HLd
              go_wp2_with fail
              refine hl2.mono ?_
              rintro e wb ⟨v2, rfl, ro2, bb⟩
              have HLb := hide ((unhide HLa).grow bb)
              have ro1 := ownsRow_of_block (unhide RO1) (fun k hk => bb.block k ((unhide RO1).lt k hk).2)
              have hst := SameTexts_any ro1 ro2 (Nat.le_trans (names_few (unhide HFS) d) (by omega))
              have RB := hide ro1
              clear hl2 ro1 ro2 bb HLa RO1
              go_wp2_with fail
              refine hst.mono ?_
              rintro e wc ⟨rfl, bc⟩
              have HLc := hide ((unhide HLb).grow bc)
              have ro1 := ownsRow_of_block (unhide RB) (fun k hk => bc.block k ((unhide RB).lt k hk).2)
              have hnc := names_cell ro1
              have hnl := names_few (unhide HFS) d
              clear hst ro1 bc HLb RB
              rcases hnc with ⟨rfl, en⟩ | ⟨gn, cn, rfl, gnl, kn⟩
              · clear en hnl
                go_wp2_with fail
                go_loopw [11] (fun i wr => i = .int .i64 0 ∧ wr = wc) (fun _ _ => 0)
                case atStart => exact ⟨rfl, rfl⟩
                case round =>
                  obtain ⟨rfl, rfl⟩ := hrel
                  go_wp2_with fail
                  go_roundw
                  case rel => exact ⟨d + 1, by omega, by go_num, HLc⟩
                  case measure => simp [intOf]; omega
              · have KN := hide kn
                clear kn
                go_wp2_with fail
                go_loopw [11] (fun i wr => ∃ k : Nat, k ≤ (names S d).length ∧ i = .int .i64 k ∧ Hid (Lw w w3.heap.size (w3.heap.size + 1) { x with kind := 2 } S S wr) ∧ Hid (Below wc.heap.size wc wr)) (fun i _ => (names S d).length - (intOf i).toNat)
                case atStart => exact ⟨0, Nat.zero_le _, rfl, HLc, Below.refl _ _⟩
                case round =>
                  obtain ⟨k, hk, rfl, HLk, HBk⟩ := hrel
                  by_cases hltk : k < (names S d).length
                  · have z2 : (k : Int) < ((names S d).length : Int) := by omega
                    have KK := hide (unhide KN k hltk)
                    have RK := hide fun (p : Nat) (hp : p < 2) => read_ok (unhide HIv) hlt hltk p hp
                    have SK := hide (names_small (unhide HIv) hlt hltk)
                    generalize (names S d)[k] = nm at KK RK SK
                    go_wp2_with fail
                    go_loopw [12] (fun i wr => ∃ p : Nat, p ≤ 2 ∧ i = .int .i64 p ∧ Hid (Lw w w3.heap.size (w3.heap.size + 1) { x with kind := 2 } S S wr) ∧ Hid (Below wc.heap.size wc wr)) (fun i _ => 2 - (intOf i).toNat)
                    case atStart => exact ⟨0, by omega, rfl, HLk, HBk⟩
                    case round =>
                      obtain ⟨p, hp, rfl, HLp, HBp⟩ := hrel
                      by_cases hltp : p < 2
                      · have z3 : (p : Int) < 2 := by omega
                        have n1 := ((unhide HBp).cell (p := ⟨gn, k, none⟩) gnl).trans (unhide KK)
                        have hr1 := (unhide HLp).two.read ((unhide HFS).mono (by omega)) d nm (unhide SK) p
                        rw [unhide RK p hltp] at hr1
                        go_wp2_with fail
                        refine hr1.mono ?_
                        rintro e wd ⟨rfl, bd⟩
                        have HLq := hide ((unhide HLp).grow bd)
                        have HBq := hide ((unhide HBp).trans (bd.mono (unhide HBp).size))
                        have n2 := ((unhide HBq).cell (p := ⟨gn, k, none⟩) gnl).trans (unhide KK)
                        have hr2 := (unhide HLq).two.flip.read ((unhide HFS).mono (by omega)) d nm (unhide SK) p
                        rw [unhide RK p hltp] at hr2
                        generalize rdT S d nm p = tx at hr2 ⊢
                        generalize rdB S d nm p = bx at hr2 ⊢
                        have y1 : (tx.toList == tx.toList) = true := by simp
                        have y2 : (bx == bx) = true := by simp
                        have y3 : (bx != bx) = false := by simp
                        clear hr1 bd n1
                        go_wp2_with fail
                        refine hr2.mono ?_
                        rintro e we ⟨rfl, be⟩
                        have HLe := hide ((unhide HLq).grow be)
                        have HBe := hide ((unhide HBq).trans (be.mono (unhide HBq).size))
                        clear hr2 be n2
                        go_wp2
                        go_roundw
                        case rel => exact ⟨p + 1, by omega, by go_num, HLe, HBe⟩
                        case measure => simp [intOf]; omega
                      · go_wp2_with fail
                        go_roundw
                        case rel => exact ⟨k + 1, by omega, by go_num, HLp, HBp⟩
                        case measure => simp [intOf]; omega
                  · have z2 : ((names S d).length : Int) ≤ (k : Int) := by omega
                    go_wp2_with fail
                    go_roundw
                    case rel => exact ⟨d + 1, by omega, by go_num, HLk⟩
                    case measure => simp [intOf]; omega
            · have HBf := hide (unhide HLd).bel
              go_wp2
              go_ret
              exact ⟨rfl, unhide HBf⟩
        · have hne : (code S { x with kind := 2 } == 0) = false := by simpa using hc2
          have hst : step S { x with kind := 2 } = S := by simp [step, hc2]
          rw [hst] at hdo
          generalize code S { x with kind := 2 } = c2 at hdo hne
          clear hst hc2
          go_wp2_with fail
          refine hdo.mono ?_
          rintro e wq ⟨rfl, lq⟩
          have HLf := hide lq
          clear hdo lq u0 u1 u2 u3 u4 u5 u6 uf
          go_wp2_with fail
          go_loopw [9] (fun i wr => ∃ d : Nat, d ≤ 3 ∧ i = .int .i64 d ∧ Hid (Lw w w3.heap.size (w3.heap.size + 1) { x with kind := 2 } S S wr)) (fun i _ => 3 - (intOf i).toNat)
          case atStart => exact ⟨0, by omega, rfl, HLf⟩
          case round =>
            obtain ⟨d, hd, rfl, HLd⟩ := hrel
            clear HLf
            by_cases hlt : d < 3
            · have hl1 := (unhide HLd).two.list ((unhide HFS).mono (by omega)) d
              have z1 : (d : Int) < 3 := by omega
              go_wp2_with fail
              refine hl1.mono ?_
              rintro e wa ⟨v1, rfl, ro1, ba⟩
              have HLa := hide ((unhide HLd).grow ba)
              have RO1 := hide ro1
              have hl2 := (unhide HLa).two.flip.list ((unhide HFS).mono (by omega)) d
              clear hl1 ro1 ba HLd
              go_wp2_with fail
              refine hl2.mono ?_
              rintro e wb ⟨v2, rfl, ro2, bb⟩
              have HLb := hide ((unhide HLa).grow bb)
              have ro1 := ownsRow_of_block (unhide RO1) (fun k hk => bb.block k ((unhide RO1).lt k hk).2)
              have hst := SameTexts_any ro1 ro2 (Nat.le_trans (names_few (unhide HFS) d) (by omega))
              have RB := hide ro1
              clear hl2 ro1 ro2 bb HLa RO1
              go_wp2_with fail
              refine hst.mono ?_
              rintro e wc ⟨rfl, bc⟩
              have HLc := hide ((unhide HLb).grow bc)
              have ro1 := ownsRow_of_block (unhide RB) (fun k hk => bc.block k ((unhide RB).lt k hk).2)
              have hnc := names_cell ro1
              have hnl := names_few (unhide HFS) d
              clear hst ro1 bc HLb RB
              rcases hnc with ⟨rfl, en⟩ | ⟨gn, cn, rfl, gnl, kn⟩
              · clear en hnl
                go_wp2_with fail
                go_loopw [11] (fun i wr => i = .int .i64 0 ∧ wr = wc) (fun _ _ => 0)
                case atStart => exact ⟨rfl, rfl⟩
                case round =>
                  obtain ⟨rfl, rfl⟩ := hrel
                  go_wp2_with fail
                  go_roundw
                  case rel => exact ⟨d + 1, by omega, by go_num, HLc⟩
                  case measure => simp [intOf]; omega
              · have KN := hide kn
                clear kn
                go_wp2_with fail
                go_loopw [11] (fun i wr => ∃ k : Nat, k ≤ (names S d).length ∧ i = .int .i64 k ∧ Hid (Lw w w3.heap.size (w3.heap.size + 1) { x with kind := 2 } S S wr) ∧ Hid (Below wc.heap.size wc wr)) (fun i _ => (names S d).length - (intOf i).toNat)
                case atStart => exact ⟨0, Nat.zero_le _, rfl, HLc, Below.refl _ _⟩
                case round =>
                  obtain ⟨k, hk, rfl, HLk, HBk⟩ := hrel
                  by_cases hltk : k < (names S d).length
                  · have z2 : (k : Int) < ((names S d).length : Int) := by omega
                    have KK := hide (unhide KN k hltk)
                    have RK := hide fun (p : Nat) (hp : p < 2) => read_ok (unhide HIv) hlt hltk p hp
                    have SK := hide (names_small (unhide HIv) hlt hltk)
                    generalize (names S d)[k] = nm at KK RK SK
                    go_wp2_with fail
                    go_loopw [12] (fun i wr => ∃ p : Nat, p ≤ 2 ∧ i = .int .i64 p ∧ Hid (Lw w w3.heap.size (w3.heap.size + 1) { x with kind := 2 } S S wr) ∧ Hid (Below wc.heap.size wc wr)) (fun i _ => 2 - (intOf i).toNat)
                    case atStart => exact ⟨0, by omega, rfl, HLk, HBk⟩
                    case round =>
                      obtain ⟨p, hp, rfl, HLp, HBp⟩ := hrel
                      by_cases hltp : p < 2
                      · have z3 : (p : Int) < 2 := by omega
                        have n1 := ((unhide HBp).cell (p := ⟨gn, k, none⟩) gnl).trans (unhide KK)
                        have hr1 := (unhide HLp).two.read ((unhide HFS).mono (by omega)) d nm (unhide SK) p
                        rw [unhide RK p hltp] at hr1
                        go_wp2_with fail
                        refine hr1.mono ?_
                        rintro e wd ⟨rfl, bd⟩
                        have HLq := hide ((unhide HLp).grow bd)
                        have HBq := hide ((unhide HBp).trans (bd.mono (unhide HBp).size))
                        have n2 := ((unhide HBq).cell (p := ⟨gn, k, none⟩) gnl).trans (unhide KK)
                        have hr2 := (unhide HLq).two.flip.read ((unhide HFS).mono (by omega)) d nm (unhide SK) p
                        rw [unhide RK p hltp] at hr2
                        generalize rdT S d nm p = tx at hr2 ⊢
                        generalize rdB S d nm p = bx at hr2 ⊢
                        have y1 : (tx.toList == tx.toList) = true := by simp
                        have y2 : (bx == bx) = true := by simp
                        have y3 : (bx != bx) = false := by simp
                        clear hr1 bd n1
                        go_wp2_with fail
                        refine hr2.mono ?_
                        rintro e we ⟨rfl, be⟩
                        have HLe := hide ((unhide HLq).grow be)
                        have HBe := hide ((unhide HBq).trans (be.mono (unhide HBq).size))
                        clear hr2 be n2
                        go_wp2
                        go_roundw
                        case rel => exact ⟨p + 1, by omega, by go_num, HLe, HBe⟩
                        case measure => simp [intOf]; omega
                      · go_wp2_with fail
                        go_roundw
                        case rel => exact ⟨k + 1, by omega, by go_num, HLp, HBp⟩
                        case measure => simp [intOf]; omega
                  · have z2 : ((names S d).length : Int) ≤ (k : Int) := by omega
                    go_wp2_with fail
                    go_roundw
                    case rel => exact ⟨d + 1, by omega, by go_num, HLk⟩
                    case measure => simp [intOf]; omega
            · have HBf := hide (unhide HLd).bel
              go_wp2
              go_ret
              exact ⟨rfl, unhide HBf⟩
  · go_enter Try.func7, Try.ntmps7
    go_wp2_with fail
    refine hbg.mono ?_
    rintro e w1 ⟨rfl, b1⟩
    have B1 := hide ((unhide HB0).trans (b1.mono (by simp)))
    have A1 := hide b1
    have hg := unhide HG w1 (unhide B1)
    clear b1 hbg
    cases hgr : greats L <;> rw [hgr] at hg
    case true =>
      clear hgr
      go_wp2_with fail
      refine hg.mono ?_
      rintro e w2 ⟨rfl, b2⟩
      have B2 := hide ((unhide B1).trans (b2.mono (unhide B1).size))
      clear b2 hg
      go_wp2
      go_ret
      exact ⟨rfl, unhide B2⟩
    have h200 := unhide HGL hgr
    clear hgr
    go_wp2_with fail
    refine hg.mono ?_
    rintro e w2 ⟨rfl, b2⟩
    have B2 := hide ((unhide B1).trans (b2.mono (unhide B1).size))
    have A2 := hide ((unhide A1).trans (b2.mono (unhide A1).size))
    have q0 := unhide HC w2 (unhide A2) 0 _ rfl
    have q1 := unhide HC w2 (unhide A2) 1 _ rfl
    have q2 := unhide HC w2 (unhide A2) 2 _ rfl
    have q3 := unhide HC w2 (unhide A2) 3 _ rfl
    have q4 := unhide HC w2 (unhide A2) 4 _ rfl
    have q5 := unhide HC w2 (unhide A2) 5 _ rfl
    have q6 := unhide HC w2 (unhide A2) 6 _ rfl
    have hgx := unhide HX w2
    clear b2 hg
    cases hgr : great x <;> rw [hgr] at hgx
    case true =>
      clear hgr
      go_wp2_with fail
      refine hgx.mono ?_
      rintro e w3 ⟨rfl, b3⟩
      have B3 := hide ((unhide B2).trans (b3.mono (unhide B2).size))
      clear b3 hgx
      go_wp2
      go_ret
      exact ⟨rfl, unhide B3⟩
    clear hgr
    go_wp2_with fail
    refine hgx.mono ?_
    rintro e w3 ⟨rfl, b3⟩
    have A3 := hide ((unhide A2).trans (b3.mono (unhide A2).size))
    clear b3 hgx q0 q1 q2 q3 q4 q5 q6
    go_wp2_with fail
    refine (New_any _).mono ?_
    rintro e w4 ⟨rfl, e9⟩
    rw [e9]
    clear e9 w4
    go_wp2_with fail
    refine (New_any _).mono ?_
    rintro e w5 ⟨rfl, e9⟩
    rw [e9]
    clear e9 w5
    have hL := Lw.start (w := w) (x := x) (unhide A3)
    have e1 : (w3.alloc nw).heap.size = w3.heap.size + 1 := by simp
    rw [e1] at hL
    unfold nw at hL
    have HL := hide hL
    clear hL e1
    rw [show (w3.alloc (Obj.cells #[Value.slice none 0 0, Value.slice none 0 0, Value.slice none 0 0] 89)).heap.size = w3.heap.size + 1 from by simp]
    generalize (w3.alloc (Obj.cells #[Value.slice none 0 0, Value.slice none 0 0, Value.slice none 0 0] 89)).alloc (Obj.cells #[Value.slice none 0 0, Value.slice none 0 0, Value.slice none 0 0] 89) = w6 at HL ⊢
    go_wp2_with fail
    go_loopw [7] (fun i wr => ∃ (k : Nat) (S : St), k ≤ L.length ∧ i = .int .i64 k ∧ Hid (Lw w w3.heap.size (w3.heap.size + 1) x S S wr) ∧ Hid (Few S k)) (fun i _ => L.length - (intOf i).toNat)
    case atStart => exact ⟨0, St.empty, Nat.zero_le _, rfl, HL, few0⟩
    case round =>
      obtain ⟨k, S, hk, rfl, HL0, HF0⟩ := hrel
      clear HL
      by_cases hlt : k < L.length
      · obtain ⟨g', o', c', e1, _, hcc⟩ := unhide HSt k hlt
        simp only [Value.slice.injEq, Option.some.injEq, Addr.mk.injEq] at e1
        obtain ⟨⟨rfl, rfl, _⟩, _, rfl⟩ := e1
        have HCC := hide hcc
        obtain ⟨q0, q1, q2, q3, q4, q5, q6⟩ := hcc _ (unhide HL0).bel
        have hok := unhide HOk _ (List.getElem_mem hlt)
        have hd := (unhide HL0).step ((unhide HF0).mono (by omega)) L[k] hok
        have HD2 := hide fun T W (h : Lw w w3.heap.size (w3.heap.size + 1) x T S W) => h.step2 ((unhide HF0).mono (by omega)) L[k] hok
        have z1 : (k : Int) < (L.length : Int) := by omega
        clear hcc hok
        go_wp2_with fail
        refine hd.mono ?_
        rintro e w7 ⟨rfl, l7⟩
        have hd2 := unhide HD2 _ w7 l7
        obtain ⟨r0, r1, r2, r3, r4, r5, r6⟩ := unhide HCC w7 l7.bel
        clear l7 hd q0 q1 q2 q3 q4 q5 q6
        go_wp2_with fail
        refine hd2.mono ?_
        rintro e w8 ⟨rfl, l8⟩
        have HL8 := hide l8
        clear l8 hd2
        go_wp2
        go_roundw
        case rel => exact ⟨k + 1, step S L[k], by omega, by go_num, HL8, (unhide HF0).step _⟩
        case measure => simp [intOf]; omega
      · have z1 : (L.length : Int) ≤ (k : Int) := by omega
        have hF0 : Few S 200 := (unhide HF0).mono (by omega)
        clear HF0
        have HFS := hide hF0
        have HIv := hide (unhide HL0).two.inv.1
        have c0 := (unhide HL0).box 0 _ rfl
        have c1 := (unhide HL0).box 1 _ rfl
        have c2 := (unhide HL0).box 2 _ rfl
        have c3 := (unhide HL0).box 3 _ rfl
        have c4 := (unhide HL0).box 4 _ rfl
        have c5 := (unhide HL0).box 5 _ rfl
        have c6 := (unhide HL0).box 6 _ rfl
        have cf := (unhide HL0).free 0
        have hdo := ((unhide HL0).put 4).step ((unhide HFS).mono (by omega)) { x with kind := 4 } ((unhide HXo).kind 4)
        simp only [stpA] at hdo
        clear hF0
        by_cases hc : code S { x with kind := 4 } = 0
        · obtain ⟨k2, k3⟩ := rename_back (unhide HIv) { x with kind := 4 } rfl hc
          have hbk := fun W (l : Lw w w3.heap.size (w3.heap.size + 1) { x with kind := 4 } (step S { x with kind := 4 }) S W) => l.step (((unhide HFS).step _).mono (by omega)) (back { x with kind := 4 }) (back_ok ((unhide HXo).kind 4))
          rw [k2, k3] at hbk
          simp only [stpA, back, none0] at hbk
          rw [hc] at hdo
          have HBk := hide hbk
          clear hc k2 k3 hbk
          go_wp2_with fail
          refine hdo.mono ?_
          rintro e wp ⟨rfl, lp⟩
          have t1 := lp.box 1 _ rfl
          have t2 := lp.box 2 _ rfl
          have t4 := lp.box 4 _ rfl
          have t5 := lp.box 5 _ rfl
          try simp only at t1 t2 t4 t5
          have hq := unhide HBk _ (lp.grow ((Below.refl _ _).alloc (Nat.le_refl _) (.cells #[.int .i64 4, .int .i64 x.toDir, .int .i64 x.dir, .int .i64 0, .string x.to, .string x.name, .string ⟨#[]⟩] 49)))
          clear lp hdo c0 c1 c2 c3 c4 c5 c6 cf HL0
          go_wp2_with fail
          refine hq.mono ?_
          rintro e wq0 ⟨rfl, lq0⟩
          have HLg := hide lq0
          clear hq lq0 t1 t2 t4 t5
          have u0 := (unhide HLg).box 0 _ rfl
          have u1 := (unhide HLg).box 1 _ rfl
          have u2 := (unhide HLg).box 2 _ rfl
          have u3 := (unhide HLg).box 3 _ rfl
          have u4 := (unhide HLg).box 4 _ rfl
          have u5 := (unhide HLg).box 5 _ rfl
          have u6 := (unhide HLg).box 6 _ rfl
          have uf := (unhide HLg).free 0
          try simp only at u0 u1 u2 u3 u4 u5 u6
          have hdo := ((unhide HLg).put 2).step ((unhide HFS).mono (by omega)) { x with kind := 2 } ((unhide HXo).kind 2)
          simp only [stpA] at hdo
          by_cases hc2 : code S { x with kind := 2 } = 0
          · obtain ⟨k1, k2, k3⟩ := link_back (unhide HIv) { x with kind := 2 } rfl hc2
            have hsm := fun W (l : Lw w w3.heap.size (w3.heap.size + 1) { x with kind := 2 } (step S { x with kind := 2 }) S W) => l.two.same (((unhide HFS).step _).mono (by omega)) x.dir x.name x.toDir x.to
            have hun := fun W (l : Lw w w3.heap.size (w3.heap.size + 1) { x with kind := 2 } (step S { x with kind := 2 }) S W) => l.step (((unhide HFS).step _).mono (by omega)) (unl { x with kind := 2 }) (unl_ok ((unhide HXo).kind 2))
            try simp only at k1
            rw [k1] at hsm
            rw [k2, k3] at hun
            simp only [stpA, unl, none0] at hun
            rw [hc2] at hdo
            have HSm := hide hsm
            have HUn := hide hun
            clear hc2 k1 k2 k3 hsm hun
            go_wp2_with fail
            refine hdo.mono ?_
            rintro e wq ⟨rfl, lq⟩
            have hq := unhide HSm wq lq
            have t1 := lq.box 1 _ rfl
            have t2 := lq.box 2 _ rfl
            have t4 := lq.box 4 _ rfl
            have t5 := lq.box 5 _ rfl
            try simp only at t1 t2 t4 t5
            have LQ := hide lq
            clear lq hdo u0 u1 u2 u3 u4 u5 u6 uf
            go_wp2_with fail
            refine hq.mono ?_
            rintro e wr2 ⟨rfl, br⟩
            have lr := (unhide LQ).grow br
            have hq2 := unhide HUn wr2 lr
            have t1' := lr.box 1 _ rfl
            have t2' := lr.box 2 _ rfl
            have t4' := lr.box 4 _ rfl
            have t5' := lr.box 5 _ rfl
            try simp only at t1' t2' t4' t5'
            clear hq br lr LQ t1 t2 t4 t5
            go_wp2_with fail
            refine hq2.mono ?_
            rintro e ws ⟨rfl, ls⟩
            have HLf := hide ls
            clear hq2 ls t1' t2' t4' t5'
            go_wp2_with fail
            go_loopw [9] (fun i wr => ∃ d : Nat, d ≤ 3 ∧ i = .int .i64 d ∧ Hid (Lw w w3.heap.size (w3.heap.size + 1) { x with kind := 2 } S S wr)) (fun i _ => 3 - (intOf i).toNat)
            case atStart => exact ⟨0, by omega, rfl, HLf⟩
            case round =>
              obtain ⟨d, hd, rfl, HLd⟩ := hrel
              clear HLf
              by_cases hlt : d < 3
              · have hl1 := (unhide HLd).two.list ((unhide HFS).mono (by omega)) d
                have z1 : (d : Int) < 3 := by omega
                go_wp2_with fail
                refine hl1.mono ?_
                rintro e wa ⟨v1, rfl, ro1, ba⟩
                have HLa := hide ((unhide HLd).grow ba)
                have RO1 := hide ro1
                have hl2 := (unhide HLa).two.flip.list ((unhide HFS).mono (by omega)) d
                clear hl1 ro1 ba HLd
                go_wp2_with fail
                refine hl2.mono ?_
                rintro e wb ⟨v2, rfl, ro2, bb⟩
                have HLb := hide ((unhide HLa).grow bb)
                have ro1 := ownsRow_of_block (unhide RO1) (fun k hk => bb.block k ((unhide RO1).lt k hk).2)
                have hst := SameTexts_any ro1 ro2 (Nat.le_trans (names_few (unhide HFS) d) (by omega))
                have RB := hide ro1
                clear hl2 ro1 ro2 bb HLa RO1
                go_wp2_with fail
                refine hst.mono ?_
                rintro e wc ⟨rfl, bc⟩
                have HLc := hide ((unhide HLb).grow bc)
                have ro1 := ownsRow_of_block (unhide RB) (fun k hk => bc.block k ((unhide RB).lt k hk).2)
                have hnc := names_cell ro1
                have hnl := names_few (unhide HFS) d
                clear hst ro1 bc HLb RB
                rcases hnc with ⟨rfl, en⟩ | ⟨gn, cn, rfl, gnl, kn⟩
                · clear en hnl
                  go_wp2_with fail
                  go_loopw [11] (fun i wr => i = .int .i64 0 ∧ wr = wc) (fun _ _ => 0)
                  case atStart => exact ⟨rfl, rfl⟩
                  case round =>
                    obtain ⟨rfl, rfl⟩ := hrel
                    go_wp2_with fail
                    go_roundw
                    case rel => exact ⟨d + 1, by omega, by go_num, HLc⟩
                    case measure => simp [intOf]; omega
                · have KN := hide kn
                  clear kn
                  go_wp2_with fail
                  go_loopw [11] (fun i wr => ∃ k : Nat, k ≤ (names S d).length ∧ i = .int .i64 k ∧ Hid (Lw w w3.heap.size (w3.heap.size + 1) { x with kind := 2 } S S wr) ∧ Hid (Below wc.heap.size wc wr)) (fun i _ => (names S d).length - (intOf i).toNat)
                  case atStart => exact ⟨0, Nat.zero_le _, rfl, HLc, Below.refl _ _⟩
                  case round =>
                    obtain ⟨k, hk, rfl, HLk, HBk⟩ := hrel
                    by_cases hltk : k < (names S d).length
                    · have z2 : (k : Int) < ((names S d).length : Int) := by omega
                      have KK := hide (unhide KN k hltk)
                      have RK := hide fun (p : Nat) (hp : p < 2) => read_ok (unhide HIv) hlt hltk p hp
                      have SK := hide (names_small (unhide HIv) hlt hltk)
                      generalize (names S d)[k] = nm at KK RK SK
                      go_wp2_with fail
                      go_loopw [12] (fun i wr => ∃ p : Nat, p ≤ 2 ∧ i = .int .i64 p ∧ Hid (Lw w w3.heap.size (w3.heap.size + 1) { x with kind := 2 } S S wr) ∧ Hid (Below wc.heap.size wc wr)) (fun i _ => 2 - (intOf i).toNat)
                      case atStart => exact ⟨0, by omega, rfl, HLk, HBk⟩
                      case round =>
                        obtain ⟨p, hp, rfl, HLp, HBp⟩ := hrel
                        by_cases hltp : p < 2
                        · have z3 : (p : Int) < 2 := by omega
                          have n1 := ((unhide HBp).cell (p := ⟨gn, k, none⟩) gnl).trans (unhide KK)
                          have hr1 := (unhide HLp).two.read ((unhide HFS).mono (by omega)) d nm (unhide SK) p
                          rw [unhide RK p hltp] at hr1
                          go_wp2_with fail
                          refine hr1.mono ?_
                          rintro e wd ⟨rfl, bd⟩
                          have HLq := hide ((unhide HLp).grow bd)
                          have HBq := hide ((unhide HBp).trans (bd.mono (unhide HBp).size))
                          have n2 := ((unhide HBq).cell (p := ⟨gn, k, none⟩) gnl).trans (unhide KK)
                          have hr2 := (unhide HLq).two.flip.read ((unhide HFS).mono (by omega)) d nm (unhide SK) p
                          rw [unhide RK p hltp] at hr2
                          generalize rdT S d nm p = tx at hr2 ⊢
                          generalize rdB S d nm p = bx at hr2 ⊢
                          have y1 : (tx.toList == tx.toList) = true := by simp
                          have y2 : (bx == bx) = true := by simp
                          have y3 : (bx != bx) = false := by simp
                          clear hr1 bd n1
                          go_wp2_with fail
                          refine hr2.mono ?_
                          rintro e we ⟨rfl, be⟩
                          have HLe := hide ((unhide HLq).grow be)
                          have HBe := hide ((unhide HBq).trans (be.mono (unhide HBq).size))
                          clear hr2 be n2
                          go_wp2
                          go_roundw
                          case rel => exact ⟨p + 1, by omega, by go_num, HLe, HBe⟩
                          case measure => simp [intOf]; omega
                        · go_wp2_with fail
                          go_roundw
                          case rel => exact ⟨k + 1, by omega, by go_num, HLp, HBp⟩
                          case measure => simp [intOf]; omega
                    · have z2 : ((names S d).length : Int) ≤ (k : Int) := by omega
                      go_wp2_with fail
                      go_roundw
                      case rel => exact ⟨d + 1, by omega, by go_num, HLk⟩
                      case measure => simp [intOf]; omega
              · have HBf := hide (unhide HLd).bel
                go_wp2
                go_ret
                exact ⟨rfl, unhide HBf⟩
          · have hne : (code S { x with kind := 2 } == 0) = false := by simpa using hc2
            have hst : step S { x with kind := 2 } = S := by simp [step, hc2]
            rw [hst] at hdo
            generalize code S { x with kind := 2 } = c2 at hdo hne
            clear hst hc2
            go_wp2_with fail
            refine hdo.mono ?_
            rintro e wq ⟨rfl, lq⟩
            have HLf := hide lq
            clear hdo lq u0 u1 u2 u3 u4 u5 u6 uf
            go_wp2_with fail
            go_loopw [9] (fun i wr => ∃ d : Nat, d ≤ 3 ∧ i = .int .i64 d ∧ Hid (Lw w w3.heap.size (w3.heap.size + 1) { x with kind := 2 } S S wr)) (fun i _ => 3 - (intOf i).toNat)
            case atStart => exact ⟨0, by omega, rfl, HLf⟩
            case round =>
              obtain ⟨d, hd, rfl, HLd⟩ := hrel
              clear HLf
              by_cases hlt : d < 3
              · have hl1 := (unhide HLd).two.list ((unhide HFS).mono (by omega)) d
                have z1 : (d : Int) < 3 := by omega
                go_wp2_with fail
                refine hl1.mono ?_
                rintro e wa ⟨v1, rfl, ro1, ba⟩
                have HLa := hide ((unhide HLd).grow ba)
                have RO1 := hide ro1
                have hl2 := (unhide HLa).two.flip.list ((unhide HFS).mono (by omega)) d
                clear hl1 ro1 ba HLd
                go_wp2_with fail
                refine hl2.mono ?_
                rintro e wb ⟨v2, rfl, ro2, bb⟩
                have HLb := hide ((unhide HLa).grow bb)
                have ro1 := ownsRow_of_block (unhide RO1) (fun k hk => bb.block k ((unhide RO1).lt k hk).2)
                have hst := SameTexts_any ro1 ro2 (Nat.le_trans (names_few (unhide HFS) d) (by omega))
                have RB := hide ro1
                clear hl2 ro1 ro2 bb HLa RO1
                go_wp2_with fail
                refine hst.mono ?_
                rintro e wc ⟨rfl, bc⟩
                have HLc := hide ((unhide HLb).grow bc)
                have ro1 := ownsRow_of_block (unhide RB) (fun k hk => bc.block k ((unhide RB).lt k hk).2)
                have hnc := names_cell ro1
                have hnl := names_few (unhide HFS) d
                clear hst ro1 bc HLb RB
                rcases hnc with ⟨rfl, en⟩ | ⟨gn, cn, rfl, gnl, kn⟩
                · clear en hnl
                  go_wp2_with fail
                  go_loopw [11] (fun i wr => i = .int .i64 0 ∧ wr = wc) (fun _ _ => 0)
                  case atStart => exact ⟨rfl, rfl⟩
                  case round =>
                    obtain ⟨rfl, rfl⟩ := hrel
                    go_wp2_with fail
                    go_roundw
                    case rel => exact ⟨d + 1, by omega, by go_num, HLc⟩
                    case measure => simp [intOf]; omega
                · have KN := hide kn
                  clear kn
                  go_wp2_with fail
                  go_loopw [11] (fun i wr => ∃ k : Nat, k ≤ (names S d).length ∧ i = .int .i64 k ∧ Hid (Lw w w3.heap.size (w3.heap.size + 1) { x with kind := 2 } S S wr) ∧ Hid (Below wc.heap.size wc wr)) (fun i _ => (names S d).length - (intOf i).toNat)
                  case atStart => exact ⟨0, Nat.zero_le _, rfl, HLc, Below.refl _ _⟩
                  case round =>
                    obtain ⟨k, hk, rfl, HLk, HBk⟩ := hrel
                    by_cases hltk : k < (names S d).length
                    · have z2 : (k : Int) < ((names S d).length : Int) := by omega
                      have KK := hide (unhide KN k hltk)
                      have RK := hide fun (p : Nat) (hp : p < 2) => read_ok (unhide HIv) hlt hltk p hp
                      have SK := hide (names_small (unhide HIv) hlt hltk)
                      generalize (names S d)[k] = nm at KK RK SK
                      go_wp2_with fail
                      go_loopw [12] (fun i wr => ∃ p : Nat, p ≤ 2 ∧ i = .int .i64 p ∧ Hid (Lw w w3.heap.size (w3.heap.size + 1) { x with kind := 2 } S S wr) ∧ Hid (Below wc.heap.size wc wr)) (fun i _ => 2 - (intOf i).toNat)
                      case atStart => exact ⟨0, by omega, rfl, HLk, HBk⟩
                      case round =>
                        obtain ⟨p, hp, rfl, HLp, HBp⟩ := hrel
                        by_cases hltp : p < 2
                        · have z3 : (p : Int) < 2 := by omega
                          have n1 := ((unhide HBp).cell (p := ⟨gn, k, none⟩) gnl).trans (unhide KK)
                          have hr1 := (unhide HLp).two.read ((unhide HFS).mono (by omega)) d nm (unhide SK) p
                          rw [unhide RK p hltp] at hr1
                          go_wp2_with fail
                          refine hr1.mono ?_
                          rintro e wd ⟨rfl, bd⟩
                          have HLq := hide ((unhide HLp).grow bd)
                          have HBq := hide ((unhide HBp).trans (bd.mono (unhide HBp).size))
                          have n2 := ((unhide HBq).cell (p := ⟨gn, k, none⟩) gnl).trans (unhide KK)
                          have hr2 := (unhide HLq).two.flip.read ((unhide HFS).mono (by omega)) d nm (unhide SK) p
                          rw [unhide RK p hltp] at hr2
                          generalize rdT S d nm p = tx at hr2 ⊢
                          generalize rdB S d nm p = bx at hr2 ⊢
                          have y1 : (tx.toList == tx.toList) = true := by simp
                          have y2 : (bx == bx) = true := by simp
                          have y3 : (bx != bx) = false := by simp
                          clear hr1 bd n1
                          go_wp2_with fail
                          refine hr2.mono ?_
                          rintro e we ⟨rfl, be⟩
                          have HLe := hide ((unhide HLq).grow be)
                          have HBe := hide ((unhide HBq).trans (be.mono (unhide HBq).size))
                          clear hr2 be n2
                          go_wp2
                          go_roundw
                          case rel => exact ⟨p + 1, by omega, by go_num, HLe, HBe⟩
                          case measure => simp [intOf]; omega
                        · go_wp2_with fail
                          go_roundw
                          case rel => exact ⟨k + 1, by omega, by go_num, HLp, HBp⟩
                          case measure => simp [intOf]; omega
                    · have z2 : ((names S d).length : Int) ≤ (k : Int) := by omega
                      go_wp2_with fail
                      go_roundw
                      case rel => exact ⟨d + 1, by omega, by go_num, HLk⟩
                      case measure => simp [intOf]; omega
              · have HBf := hide (unhide HLd).bel
                go_wp2
                go_ret
                exact ⟨rfl, unhide HBf⟩
        · have hne : (code S { x with kind := 4 } == 0) = false := by simpa using hc
          have hst : step S { x with kind := 4 } = S := by simp [step, hc]
          rw [hst] at hdo
          generalize code S { x with kind := 4 } = cc at hdo hne
          clear hst hc
          go_wp2_with fail
          refine hdo.mono ?_
          rintro e wq0 ⟨rfl, lq0⟩
          have HLg := hide lq0
          clear hdo lq0 c0 c1 c2 c3 c4 c5 c6 cf HL0
          have u0 := (unhide HLg).box 0 _ rfl
          have u1 := (unhide HLg).box 1 _ rfl
          have u2 := (unhide HLg).box 2 _ rfl
          have u3 := (unhide HLg).box 3 _ rfl
          have u4 := (unhide HLg).box 4 _ rfl
          have u5 := (unhide HLg).box 5 _ rfl
          have u6 := (unhide HLg).box 6 _ rfl
          have uf := (unhide HLg).free 0
          try simp only at u0 u1 u2 u3 u4 u5 u6
          have hdo := ((unhide HLg).put 2).step ((unhide HFS).mono (by omega)) { x with kind := 2 } ((unhide HXo).kind 2)
          simp only [stpA] at hdo
          by_cases hc2 : code S { x with kind := 2 } = 0
          · obtain ⟨k1, k2, k3⟩ := link_back (unhide HIv) { x with kind := 2 } rfl hc2
            have hsm := fun W (l : Lw w w3.heap.size (w3.heap.size + 1) { x with kind := 2 } (step S { x with kind := 2 }) S W) => l.two.same (((unhide HFS).step _).mono (by omega)) x.dir x.name x.toDir x.to
            have hun := fun W (l : Lw w w3.heap.size (w3.heap.size + 1) { x with kind := 2 } (step S { x with kind := 2 }) S W) => l.step (((unhide HFS).step _).mono (by omega)) (unl { x with kind := 2 }) (unl_ok ((unhide HXo).kind 2))
            try simp only at k1
            rw [k1] at hsm
            rw [k2, k3] at hun
            simp only [stpA, unl, none0] at hun
            rw [hc2] at hdo
            have HSm := hide hsm
            have HUn := hide hun
            clear hc2 k1 k2 k3 hsm hun
            go_wp2_with fail
            refine hdo.mono ?_
            rintro e wq ⟨rfl, lq⟩
            have hq := unhide HSm wq lq
            have t1 := lq.box 1 _ rfl
            have t2 := lq.box 2 _ rfl
            have t4 := lq.box 4 _ rfl
            have t5 := lq.box 5 _ rfl
            try simp only at t1 t2 t4 t5
            have LQ := hide lq
            clear lq hdo u0 u1 u2 u3 u4 u5 u6 uf
            go_wp2_with fail
            refine hq.mono ?_
            rintro e wr2 ⟨rfl, br⟩
            have lr := (unhide LQ).grow br
            have hq2 := unhide HUn wr2 lr
            have t1' := lr.box 1 _ rfl
            have t2' := lr.box 2 _ rfl
            have t4' := lr.box 4 _ rfl
            have t5' := lr.box 5 _ rfl
            try simp only at t1' t2' t4' t5'
            clear hq br lr LQ t1 t2 t4 t5
            go_wp2_with fail
            refine hq2.mono ?_
            rintro e ws ⟨rfl, ls⟩
            have HLf := hide ls
            clear hq2 ls t1' t2' t4' t5'
            go_wp2_with fail
            go_loopw [9] (fun i wr => ∃ d : Nat, d ≤ 3 ∧ i = .int .i64 d ∧ Hid (Lw w w3.heap.size (w3.heap.size + 1) { x with kind := 2 } S S wr)) (fun i _ => 3 - (intOf i).toNat)
            case atStart => exact ⟨0, by omega, rfl, HLf⟩
            case round =>
              obtain ⟨d, hd, rfl, HLd⟩ := hrel
              clear HLf
              by_cases hlt : d < 3
              · have hl1 := (unhide HLd).two.list ((unhide HFS).mono (by omega)) d
                have z1 : (d : Int) < 3 := by omega
                go_wp2_with fail
                refine hl1.mono ?_
                rintro e wa ⟨v1, rfl, ro1, ba⟩
                have HLa := hide ((unhide HLd).grow ba)
                have RO1 := hide ro1
                have hl2 := (unhide HLa).two.flip.list ((unhide HFS).mono (by omega)) d
                clear hl1 ro1 ba HLd
                go_wp2_with fail
                refine hl2.mono ?_
                rintro e wb ⟨v2, rfl, ro2, bb⟩
                have HLb := hide ((unhide HLa).grow bb)
                have ro1 := ownsRow_of_block (unhide RO1) (fun k hk => bb.block k ((unhide RO1).lt k hk).2)
                have hst := SameTexts_any ro1 ro2 (Nat.le_trans (names_few (unhide HFS) d) (by omega))
                have RB := hide ro1
                clear hl2 ro1 ro2 bb HLa RO1
                go_wp2_with fail
                refine hst.mono ?_
                rintro e wc ⟨rfl, bc⟩
                have HLc := hide ((unhide HLb).grow bc)
                have ro1 := ownsRow_of_block (unhide RB) (fun k hk => bc.block k ((unhide RB).lt k hk).2)
                have hnc := names_cell ro1
                have hnl := names_few (unhide HFS) d
                clear hst ro1 bc HLb RB
                rcases hnc with ⟨rfl, en⟩ | ⟨gn, cn, rfl, gnl, kn⟩
                · clear en hnl
                  go_wp2_with fail
                  go_loopw [11] (fun i wr => i = .int .i64 0 ∧ wr = wc) (fun _ _ => 0)
                  case atStart => exact ⟨rfl, rfl⟩
                  case round =>
                    obtain ⟨rfl, rfl⟩ := hrel
                    go_wp2_with fail
                    go_roundw
                    case rel => exact ⟨d + 1, by omega, by go_num, HLc⟩
                    case measure => simp [intOf]; omega
                · have KN := hide kn
                  clear kn
                  go_wp2_with fail
                  go_loopw [11] (fun i wr => ∃ k : Nat, k ≤ (names S d).length ∧ i = .int .i64 k ∧ Hid (Lw w w3.heap.size (w3.heap.size + 1) { x with kind := 2 } S S wr) ∧ Hid (Below wc.heap.size wc wr)) (fun i _ => (names S d).length - (intOf i).toNat)
                  case atStart => exact ⟨0, Nat.zero_le _, rfl, HLc, Below.refl _ _⟩
                  case round =>
                    obtain ⟨k, hk, rfl, HLk, HBk⟩ := hrel
                    by_cases hltk : k < (names S d).length
                    · have z2 : (k : Int) < ((names S d).length : Int) := by omega
                      have KK := hide (unhide KN k hltk)
                      have RK := hide fun (p : Nat) (hp : p < 2) => read_ok (unhide HIv) hlt hltk p hp
                      have SK := hide (names_small (unhide HIv) hlt hltk)
                      generalize (names S d)[k] = nm at KK RK SK
                      go_wp2_with fail
                      go_loopw [12] (fun i wr => ∃ p : Nat, p ≤ 2 ∧ i = .int .i64 p ∧ Hid (Lw w w3.heap.size (w3.heap.size + 1) { x with kind := 2 } S S wr) ∧ Hid (Below wc.heap.size wc wr)) (fun i _ => 2 - (intOf i).toNat)
                      case atStart => exact ⟨0, by omega, rfl, HLk, HBk⟩
                      case round =>
                        obtain ⟨p, hp, rfl, HLp, HBp⟩ := hrel
                        by_cases hltp : p < 2
                        · have z3 : (p : Int) < 2 := by omega
                          have n1 := ((unhide HBp).cell (p := ⟨gn, k, none⟩) gnl).trans (unhide KK)
                          have hr1 := (unhide HLp).two.read ((unhide HFS).mono (by omega)) d nm (unhide SK) p
                          rw [unhide RK p hltp] at hr1
                          go_wp2_with fail
                          refine hr1.mono ?_
                          rintro e wd ⟨rfl, bd⟩
                          have HLq := hide ((unhide HLp).grow bd)
                          have HBq := hide ((unhide HBp).trans (bd.mono (unhide HBp).size))
                          have n2 := ((unhide HBq).cell (p := ⟨gn, k, none⟩) gnl).trans (unhide KK)
                          have hr2 := (unhide HLq).two.flip.read ((unhide HFS).mono (by omega)) d nm (unhide SK) p
                          rw [unhide RK p hltp] at hr2
                          generalize rdT S d nm p = tx at hr2 ⊢
                          generalize rdB S d nm p = bx at hr2 ⊢
                          have y1 : (tx.toList == tx.toList) = true := by simp
                          have y2 : (bx == bx) = true := by simp
                          have y3 : (bx != bx) = false := by simp
                          clear hr1 bd n1
                          go_wp2_with fail
                          refine hr2.mono ?_
                          rintro e we ⟨rfl, be⟩
                          have HLe := hide ((unhide HLq).grow be)
                          have HBe := hide ((unhide HBq).trans (be.mono (unhide HBq).size))
                          clear hr2 be n2
                          go_wp2
                          go_roundw
                          case rel => exact ⟨p + 1, by omega, by go_num, HLe, HBe⟩
                          case measure => simp [intOf]; omega
                        · go_wp2_with fail
                          go_roundw
                          case rel => exact ⟨k + 1, by omega, by go_num, HLp, HBp⟩
                          case measure => simp [intOf]; omega
                    · have z2 : ((names S d).length : Int) ≤ (k : Int) := by omega
                      go_wp2_with fail
                      go_roundw
                      case rel => exact ⟨d + 1, by omega, by go_num, HLk⟩
                      case measure => simp [intOf]; omega
              · have HBf := hide (unhide HLd).bel
                go_wp2
                go_ret
                exact ⟨rfl, unhide HBf⟩
          · have hne : (code S { x with kind := 2 } == 0) = false := by simpa using hc2
            have hst : step S { x with kind := 2 } = S := by simp [step, hc2]
            rw [hst] at hdo
            generalize code S { x with kind := 2 } = c2 at hdo hne
            clear hst hc2
            go_wp2_with fail
            refine hdo.mono ?_
            rintro e wq ⟨rfl, lq⟩
            have HLf := hide lq
            clear hdo lq u0 u1 u2 u3 u4 u5 u6 uf
            go_wp2_with fail
            go_loopw [9] (fun i wr => ∃ d : Nat, d ≤ 3 ∧ i = .int .i64 d ∧ Hid (Lw w w3.heap.size (w3.heap.size + 1) { x with kind := 2 } S S wr)) (fun i _ => 3 - (intOf i).toNat)
            case atStart => exact ⟨0, by omega, rfl, HLf⟩
            case round =>
              obtain ⟨d, hd, rfl, HLd⟩ := hrel
              clear HLf
              by_cases hlt : d < 3
              · have hl1 := (unhide HLd).two.list ((unhide HFS).mono (by omega)) d
                have z1 : (d : Int) < 3 := by omega
                go_wp2_with fail
                refine hl1.mono ?_
                rintro e wa ⟨v1, rfl, ro1, ba⟩
                have HLa := hide ((unhide HLd).grow ba)
                have RO1 := hide ro1
                have hl2 := (unhide HLa).two.flip.list ((unhide HFS).mono (by omega)) d
                clear hl1 ro1 ba HLd
                go_wp2_with fail
                refine hl2.mono ?_
                rintro e wb ⟨v2, rfl, ro2, bb⟩
                have HLb := hide ((unhide HLa).grow bb)
                have ro1 := ownsRow_of_block (unhide RO1) (fun k hk => bb.block k ((unhide RO1).lt k hk).2)
                have hst := SameTexts_any ro1 ro2 (Nat.le_trans (names_few (unhide HFS) d) (by omega))
                have RB := hide ro1
                clear hl2 ro1 ro2 bb HLa RO1
                go_wp2_with fail
                refine hst.mono ?_
                rintro e wc ⟨rfl, bc⟩
                have HLc := hide ((unhide HLb).grow bc)
                have ro1 := ownsRow_of_block (unhide RB) (fun k hk => bc.block k ((unhide RB).lt k hk).2)
                have hnc := names_cell ro1
                have hnl := names_few (unhide HFS) d
                clear hst ro1 bc HLb RB
                rcases hnc with ⟨rfl, en⟩ | ⟨gn, cn, rfl, gnl, kn⟩
                · clear en hnl
                  go_wp2_with fail
                  go_loopw [11] (fun i wr => i = .int .i64 0 ∧ wr = wc) (fun _ _ => 0)
                  case atStart => exact ⟨rfl, rfl⟩
                  case round =>
                    obtain ⟨rfl, rfl⟩ := hrel
                    go_wp2_with fail
                    go_roundw
                    case rel => exact ⟨d + 1, by omega, by go_num, HLc⟩
                    case measure => simp [intOf]; omega
                · have KN := hide kn
                  clear kn
                  go_wp2_with fail
                  go_loopw [11] (fun i wr => ∃ k : Nat, k ≤ (names S d).length ∧ i = .int .i64 k ∧ Hid (Lw w w3.heap.size (w3.heap.size + 1) { x with kind := 2 } S S wr) ∧ Hid (Below wc.heap.size wc wr)) (fun i _ => (names S d).length - (intOf i).toNat)
                  case atStart => exact ⟨0, Nat.zero_le _, rfl, HLc, Below.refl _ _⟩
                  case round =>
                    obtain ⟨k, hk, rfl, HLk, HBk⟩ := hrel
                    by_cases hltk : k < (names S d).length
                    · have z2 : (k : Int) < ((names S d).length : Int) := by omega
                      have KK := hide (unhide KN k hltk)
                      have RK := hide fun (p : Nat) (hp : p < 2) => read_ok (unhide HIv) hlt hltk p hp
                      have SK := hide (names_small (unhide HIv) hlt hltk)
                      generalize (names S d)[k] = nm at KK RK SK
                      go_wp2_with fail
                      go_loopw [12] (fun i wr => ∃ p : Nat, p ≤ 2 ∧ i = .int .i64 p ∧ Hid (Lw w w3.heap.size (w3.heap.size + 1) { x with kind := 2 } S S wr) ∧ Hid (Below wc.heap.size wc wr)) (fun i _ => 2 - (intOf i).toNat)
                      case atStart => exact ⟨0, by omega, rfl, HLk, HBk⟩
                      case round =>
                        obtain ⟨p, hp, rfl, HLp, HBp⟩ := hrel
                        by_cases hltp : p < 2
                        · have z3 : (p : Int) < 2 := by omega
                          have n1 := ((unhide HBp).cell (p := ⟨gn, k, none⟩) gnl).trans (unhide KK)
                          have hr1 := (unhide HLp).two.read ((unhide HFS).mono (by omega)) d nm (unhide SK) p
                          rw [unhide RK p hltp] at hr1
                          go_wp2_with fail
                          refine hr1.mono ?_
                          rintro e wd ⟨rfl, bd⟩
                          have HLq := hide ((unhide HLp).grow bd)
                          have HBq := hide ((unhide HBp).trans (bd.mono (unhide HBp).size))
                          have n2 := ((unhide HBq).cell (p := ⟨gn, k, none⟩) gnl).trans (unhide KK)
                          have hr2 := (unhide HLq).two.flip.read ((unhide HFS).mono (by omega)) d nm (unhide SK) p
                          rw [unhide RK p hltp] at hr2
                          generalize rdT S d nm p = tx at hr2 ⊢
                          generalize rdB S d nm p = bx at hr2 ⊢
                          have y1 : (tx.toList == tx.toList) = true := by simp
                          have y2 : (bx == bx) = true := by simp
                          have y3 : (bx != bx) = false := by simp
                          clear hr1 bd n1
                          go_wp2_with fail
                          refine hr2.mono ?_
                          rintro e we ⟨rfl, be⟩
                          have HLe := hide ((unhide HLq).grow be)
                          have HBe := hide ((unhide HBq).trans (be.mono (unhide HBq).size))
                          clear hr2 be n2
                          go_wp2
                          go_roundw
                          case rel => exact ⟨p + 1, by omega, by go_num, HLe, HBe⟩
                          case measure => simp [intOf]; omega
                        · go_wp2_with fail
                          go_roundw
                          case rel => exact ⟨k + 1, by omega, by go_num, HLp, HBp⟩
                          case measure => simp [intOf]; omega
                    · have z2 : ((names S d).length : Int) ≤ (k : Int) := by omega
                      go_wp2_with fail
                      go_roundw
                      case rel => exact ⟨d + 1, by omega, by go_num, HLk⟩
                      case measure => simp [intOf]; omega
              · have HBf := hide (unhide HLd).bel
                go_wp2
                go_ret
                exact ⟨rfl, unhide HBf⟩
end Idl
end Go.Proofs.Ytcpfnnllopbgaaa
