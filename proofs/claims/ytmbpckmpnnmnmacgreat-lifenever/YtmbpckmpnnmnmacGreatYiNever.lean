/-
  The law LifeNever: its walk. (Written by genhi.py.)
-/
import Derived.Test.YtmbpckmpnnmnmacGreatYx
import Derived.Test.YtmbpckmpnnmnmacGreatYr
import Derived.Test.YtmbpckmpnnmnmacGreatYm
namespace Go.Proofs.YtmbpckmpnnmnmacGreat
open Go.RowKit
open Idl (Stp chk stpA)
theorem never_disk {S : Lv} {D : Img} (h : S.disk = D) (hm : Img.mend D = D) {x : Stp} (hx : x.kind ≠ 7 ∧ x.kind ≠ 8) : (S.step x).disk = D := by
  rw [S.step_disk]
  unfold Img.ldisk
  by_cases h9 : x.kind = 9
  · rw [if_pos h9, h, hm]
  · rw [if_neg h9, if_neg hx.1, if_neg hx.2, h]
set_option maxHeartbeats 8000000 in
set_option maxRecDepth 100000 in
theorem lifeNever_any {w : World} {v v2 : Value} {L L2 : List Stp} (hs : Idl.Steps w v L) (hs2 : Idl.Steps w v2 L2) :
    Calls Tryz.prog 10 #[v, v2] w fun e w' => e = .returned (.bool true) ∧ Below w.heap.size w w' := by
  have HG2 := hide fun W (bW : Below w.heap.size w W) => Idl.greatSteps_any (hs2.below bW)
  have HOk2 := hide hs2.ok
  have hgl2 : Idl.greats L2 = false → L2.length ≤ 200 := fun h => by
    simp only [Idl.greats, Bool.or_eq_false_iff, decide_eq_false_iff_not] at h
    omega
  have HGL2 := hide hgl2
  obtain ⟨a2, c2, rfl, hst2⟩ := Sft.Steps.gen hs2
  have HST2 := hide hst2
  clear hs2 hgl2 hst2
  have z := zero_img.1
  have hbg := Lif.begun_any w
  have HG := hide fun W (bW : Below w.heap.size w W) => Idl.greatSteps_any (hs.below bW)
  have HOk := hide hs.ok
  have hgl : Idl.greats L = false → L.length ≤ 200 := fun h => by
    simp only [Idl.greats, Bool.or_eq_false_iff, decide_eq_false_iff_not] at h
    omega
  have HGL := hide hgl
  obtain ⟨a, c, rfl, hst⟩ := Sft.Steps.gen hs
  have HST := hide hst
  clear hs hgl hst
  go_enter Tryz.func10, Tryz.ntmps10
  go_wp2_with fail
  refine hbg.mono ?_
  rintro e w1 ⟨rfl, b1⟩
  have B1 := hide b1
  have hg := unhide HG w1 b1
  clear b1 hbg
  cases hgr : Idl.greats L <;> rw [hgr] at hg
  case true =>
    clear hgr
    go_wp2_with fail
    refine hg.mono ?_
    rintro e w2 ⟨rfl, b2⟩
    have B2 := hide ((unhide B1).trans (b2.mono (unhide B1).size))
    clear b2 hg
    go_wp2_with fail
    go_ret
    exact ⟨rfl, unhide B2⟩
  have h200 := unhide HGL hgr
  clear hgr HGL HG
  go_wp2_with fail
  refine hg.mono ?_
  rintro e wA ⟨rfl, bA⟩
  have BA := hide ((unhide B1).trans (bA.mono (unhide B1).size))
  have hg2 := unhide HG2 wA (unhide BA)
  clear bA hg B1 HG2
  cases hgr2 : Idl.greats L2 <;> rw [hgr2] at hg2
  case true =>
    clear hgr2
    go_wp2_with fail
    refine hg2.mono ?_
    rintro e w2 ⟨rfl, b2⟩
    have B2 := hide ((unhide BA).trans (b2.mono (unhide BA).size))
    clear b2 hg2
    go_wp2_with fail
    go_ret
    exact ⟨rfl, unhide B2⟩
  have h202 := unhide HGL2 hgr2
  clear hgr2 HGL2
  go_wp2_with fail
  refine hg2.mono ?_
  rintro e w2 ⟨rfl, b2⟩
  have B2 := hide ((unhide BA).trans (b2.mono (unhide BA).size))
  clear b2 hg2 BA
  go_wp2_with fail
  refine (lNew_any w (unhide B2)).mono ?_
  rintro e w3 ⟨bl, bf0, bc0, rfl, _, _, _, h3, _⟩
  have H3 := hide h3
  clear h3 B2
  go_wp2_with fail
  go_loopw [6] (fun i wr => ∃ (j bf bc : Nat) (S : Lv), j ≤ L.length ∧ i = .int .i64 j ∧ Hid (Lo w bl bf bc S wr) ∧ Hid (S.Ok j)) (fun i _ => L.length - (intOf i).toNat)
  case atStart => exact ⟨0, bf0, bc0, Lv.new, Nat.zero_le _, rfl, H3, hide Lv.Ok.start⟩
  case round =>
    clear H3
    obtain ⟨j, bf, bc, S, hj, rfl, HF, HK⟩ := hrel
    by_cases hlt : j < L.length
    case pos =>
      have hjn : (j : Int) < (L.length : Int) := by omega
      obtain ⟨ga, oa, rfl, hga, hca⟩ := unhide HST j hlt
      have hxo := unhide HOk L[j] (List.getElem_mem hlt)
      generalize L[j] = x at hca hxo
      have HXO := hide hxo.big
      have HCA := hide hca
      have S0 := unhide HCA _ (unhide HF).bel
      have D := hide (lStep_any (unhide HF) (unhide HK) (by omega) x (unhide HXO).1 (unhide HXO).2.1 (unhide HXO).2.2)
      have K1 := hide ((unhide HK).any x)
      clear hca hxo HST HOk hga
      go_wp2_with (first | (refine wpList_value rfl (Lif.ix_step (c := c) _ _ rfl (g := ga) (q := oa) (n := L.length) (j := j) rfl rfl hlt _) ?_) | (refine wpList_value rfl (Lif.ld_step _ rfl rfl x _ S0) ?_))
      refine (unhide D).mono ?_
      rintro e w4 ⟨rfl, bf', bc', h4, _⟩
      have H4 := hide h4
      clear h4 D S0 HF
      go_wp2_with fail
      go_roundw
      case rel => exact ⟨j + 1, bf', bc', _, by omega, by go_num, H4, K1⟩
      case measure => simp [intOf]; omega
    clear HST HOk
    have s0 : Idl.none0.size ≤ maxLen := Sft.small _ (Nat.zero_le _)
    have D9 := hide (lStep_any (unhide HF) (unhide HK) (by omega) Lif.y5 s0 s0 s0)
    rw [(S.step_nine (x := Lif.y5) rfl).1, (S.step_nine (x := Lif.y5) rfl).2] at D9
    have K9 := hide ((unhide HK).any Lif.y5)
    rw [(S.step_nine (x := Lif.y5) rfl).1] at K9
    have D9' := D9
    simp only [stpA, Lif.y5, Idl.none0] at D9'
    clear s0
    go_wp2_with fail
    refine (unhide D9').mono ?_
    rintro e w4 ⟨rfl, bf1, bc1, h4, _⟩
    have H4 := hide h4
    have MM := hide (show Img.mend S.crash.disk = S.crash.disk from (Img.again (unhide HK).hold.ok).1)
    have ED : S.crash.disk = S.crash.now := rfl
    clear h4 D9 D9' HF HK
    generalize hT : S.crash = T at H4 K9 MM ED
    clear hT
    obtain ⟨cs, ds, fl⟩ := (unhide H4).fo.it
    have r1 := hide fl.row
    have hi := fl.now
    have zi := hi.size
    have hle : 0 + 94 ≤ (cs ++ ds).size := by simp [zi]
    have q0 := (unhide H4).ptr
    have q1 := (unhide H4).ptr2
    clear fl
    have s1 := hide (heap_alloc_last w4 (.cells zeroCells 44))
    have BA := hide (below_setRow ((Below.refl w4.heap.size w4).alloc (Nat.le_refl _) (.cells zeroCells 44)) (Nat.le_refl w4.heap.size) cs)
    have RA := hide (setRow_heap (w4.alloc (.cells zeroCells 44)) w4.heap.size _ cs _ _ (heap_alloc_last w4 (.cells zeroCells 44)))
    have NG := hide (show w4.heap.size ≠ bl ∧ w4.heap.size ≠ bf1 ∧ w4.heap.size ≠ bc1 by have := (unhide H4).lt; have := (unhide H4).fo.cells.2.1; have := (unhide H4).fo.cells.2.2.1; omega)
    go_wp2_with (first | (have hx := unhide r1; refine wpList_load_part rfl 44 _ rfl bc1 0 94 rfl 57 (cs ++ ds) _ hx img_under rfl zero_img.2 hle ?_; rw [app_fst zi]; clear hx r1) | (have hx := unhide s1; refine wpList_store_row rfl 44 _ _ rfl w4.heap.size cs rfl rfl 44 zeroCells hx (img_info (hi).size) (zero_size hi) (hi).all ?_; clear hx s1; generalize (w4.alloc (.cells zeroCells 44)).setRow w4.heap.size cs = X5 at BA RA ⊢))
    have H5 := hide ((unhide H4).call (unhide BA))
    generalize w4.heap.size = g7 at RA NG ⊢
    clear BA H4 q0 q1
    go_wp2_with fail
    go_loopw [8] (fun i wr => ∃ (q bf bc : Nat) (U : Lv), q ≤ L2.length ∧ i = .int .i64 q ∧ Hid (Lo w bl bf bc U wr) ∧ Hid (U.Ok (j + 1 + q)) ∧ Hid (U.disk = T.disk) ∧ Hid (wr.heap[g7]? = some (.cells cs 44)) ∧ Hid (g7 ≠ bl ∧ g7 ≠ bf ∧ g7 ≠ bc)) (fun i _ => L2.length - (intOf i).toNat)
    case atStart => exact ⟨0, bf1, bc1, T, Nat.zero_le _, rfl, H5, K9, hide rfl, RA, NG⟩
    case round =>
      clear H5 RA NG K9
      obtain ⟨q, bf2, bc2, U, hq, rfl, HF, HK, HD, RA, NG⟩ := hrel
      by_cases hlt : q < L2.length
      case pos =>
        have hjn : (q : Int) < (L2.length : Int) := by omega
        obtain ⟨ga, oa, rfl, hga, hca⟩ := unhide HST2 q hlt
        have hxo := unhide HOk2 L2[q] (List.getElem_mem hlt)
        generalize L2[q] = x at hca hxo
        have HXO := hide hxo.big
        have HCA := hide hca
        have S0 := unhide HCA _ (unhide HF).bel
        have e0 : wr.cell? ⟨ga, oa + q * 7, none⟩ = some (.int .i64 x.kind) := S0 0 _ rfl
        clear hca hxo HST2 HOk2 hga
        by_cases h78 : x.kind = 7 ∨ x.kind = 8
        case pos =>
          have K2 := hide (show U.Ok (j + 1 + (q + 1)) from ⟨(unhide HK).hold, by have := (unhide HK).few; omega, (unhide HK).cr0, by have := (unhide HK).crn; omega⟩)
          by_cases h7 : x.kind = 7
          case pos =>
            have k7 : (x.kind != 7) = false := by simp [h7]
            go_wp2_with (first | (refine wpList_value rfl (Lif.ix_step (c := c2) _ _ rfl (g := ga) (q := oa) (n := L2.length) (j := q) rfl rfl hlt _) ?_) | (refine wpList_value_g rfl (Lif.ix_step (c := c2) _ _ rfl (g := ga) (q := oa) (n := L2.length) (j := q) rfl rfl hlt _) ?_))
            go_roundw
            case rel => exact ⟨q + 1, bf2, bc2, U, by omega, by go_num, HF, K2, HD, RA, NG⟩
            case measure => simp [intOf]; omega
          have h8 : x.kind = 8 := by omega
          have k7 : (x.kind != 7) = true := by simp [h7]
          have k8 : (x.kind != 8) = false := by simp [h8]
          go_wp2_with (first | (refine wpList_value rfl (Lif.ix_step (c := c2) _ _ rfl (g := ga) (q := oa) (n := L2.length) (j := q) rfl rfl hlt _) ?_) | (refine wpList_value_g rfl (Lif.ix_step (c := c2) _ _ rfl (g := ga) (q := oa) (n := L2.length) (j := q) rfl rfl hlt _) ?_))
          go_roundw
          case rel => exact ⟨q + 1, bf2, bc2, U, by omega, by go_num, HF, K2, HD, RA, NG⟩
          case measure => simp [intOf]; omega
        have k7 : (x.kind != 7) = true := by simp; omega
        have k8 : (x.kind != 8) = true := by simp; omega
        have D := hide (lStep_any (unhide HF) (unhide HK) (by omega) x (unhide HXO).1 (unhide HXO).2.1 (unhide HXO).2.2)
        have K2 := hide ((unhide HK).any x)
        have D2 := hide (never_disk (unhide HD) (unhide MM) (x := x) (by omega))
        go_wp2_with (first | (refine wpList_value rfl (Lif.ix_step (c := c2) _ _ rfl (g := ga) (q := oa) (n := L2.length) (j := q) rfl rfl hlt _) ?_) | (refine wpList_value_g rfl (Lif.ix_step (c := c2) _ _ rfl (g := ga) (q := oa) (n := L2.length) (j := q) rfl rfl hlt _) ?_) | (refine wpList_value rfl (Lif.ld_step _ rfl rfl x _ S0) ?_))
        refine (unhide D).mono ?_
        rintro e w6 ⟨rfl, bf', bc', h6, l6⟩
        have H6 := hide h6
        have R6 := hide (l6.row (unhide RA) (unhide NG)).1
        have N6 := hide (l6.row (unhide RA) (unhide NG)).2
        clear h6 l6 D S0 HF
        go_wp2_with fail
        go_roundw
        case rel => exact ⟨q + 1, bf', bc', _, by omega, by go_num, H6, K2, D2, R6, N6⟩
        case measure => simp [intOf]; omega
      have FIN := trivial
      clear FIN
      have s0 : Idl.none0.size ≤ maxLen := Sft.small _ (Nat.zero_le _)
      have D9 := hide (lStep_any (unhide HF) (unhide HK) (by omega) Lif.y5 s0 s0 s0)
      rw [(U.step_nine (x := Lif.y5) rfl).1, (U.step_nine (x := Lif.y5) rfl).2] at D9
      have K9 := hide ((unhide HK).any Lif.y5)
      rw [(U.step_nine (x := Lif.y5) rfl).1] at K9
      have D9' := D9
      simp only [stpA, Lif.y5, Idl.none0] at D9'
      clear s0
      have EN : Hid (U.crash.now = T.disk ∧ U.crash.disk = T.disk) := hide ⟨by show Img.mend U.disk = _; rw [unhide HD]; exact unhide MM, by show Img.mend U.disk = _; rw [unhide HD]; exact unhide MM⟩
      have D9d := hide fun W (r : Lo w bl bf2 bc2 U W) => lStep_any r (unhide HK) (by omega) Lif.y5 (Sft.small _ (Nat.zero_le _)) (Sft.small _ (Nat.zero_le _)) (Sft.small _ (Nat.zero_le _))
      rw [(U.step_nine (x := Lif.y5) rfl).1, (U.step_nine (x := Lif.y5) rfl).2] at D9d
      have HFd := hide ((unhide HF).call (Below.refl _ wr).drew)
      have RAd : Hid (wr.drew.heap[g7]? = some (.cells cs 44)) := RA
      clear D9 D9' HST2 HOk2 HK
      go_upto_region 17 with fail
      refine wp_region_held_drew (S := fun _ => True) (by kernel_rfl) (trivial) (fun hS => ?_)
      refine wpAnyH_take (i := 0) (oi := { dst := some 69, op := Op.move (Operand.tmp 5), type := 25, pos := "law07.go:276", after := #[], guard := none }) (v := .pointer (some ⟨bl, 0, none⟩)) rfl (by kernel_rfl) (by kernel_rfl) (by kernel_rfl) (fun _ _ _ h => h) (Or.inl ⟨by kernel_rfl, fun W h => (by first | kernel_rfl | go_simp)⟩) hS ?_
      try simp only [Act.put, List.setIfInBounds_toArray, List.set_cons_zero, List.set_cons_succ]
      refine wpAnyH_take (i := 1) (oi := { dst := some 70, op := Op.build 31 #[(0, Operand.const (Value.int IntKind.i64 9))], type := 31, pos := "law07.go:276", after := #[], guard := none }) (v := .agg (stpA Lif.y5)) rfl (by kernel_rfl) (by kernel_rfl) (by kernel_rfl) (fun _ _ _ h => h) (Or.inl ⟨by kernel_rfl, fun W h => (by first | kernel_rfl | go_simp)⟩) hS ?_
      try simp only [Act.put, List.setIfInBounds_toArray, List.set_cons_zero, List.set_cons_succ]
      refine wpAnyH_ready (rs := [2]) (by kernel_rfl) (by simp) ?_
      refine AllReadyH.cons (o := { dst := some 71, op := Op.call { callee := Callee.value (Operand.func 16), args := #[Operand.tmp 69, Operand.tmp 70], argTypes := #[25, 31] }, type := 3, pos := "law07.go:276", after := #[{ on := 0, ground := Ground.data }, { on := 1, ground := Ground.data }], guard := none }) rfl (fun K hK => ?_) AllReadyH.nil
      rw [if_pos (by kernel_rfl)]
      go_simp
      refine (unhide D9d _ (unhide HFd)).mono ?_
      rintro e w6 ⟨rfl, bf', bc', h6, l6⟩
      have H6 := hide h6
      have R6 := hide (l6.row (unhide RAd) (unhide NG)).1
      clear h6 l6 D9d HFd RAd RA HF
      go_wp2_with fail
      refine hK.out _ _ (trivial) (fun hS6 => ?_)
      clear hK K
      try simp only [Act.put, List.setIfInBounds_toArray, List.set_cons_zero, List.set_cons_succ]
      refine wpAnyH_take (i := 3) (oi := { dst := some 72, op := Op.binOp BinOp.eql 3 (Operand.tmp 71) (Operand.const (Value.int IntKind.i64 0)) 3, type := 4, pos := "law07.go:276", after := #[{ on := 2, ground := Ground.data }], guard := none }) (v := .bool true) rfl (by kernel_rfl) (by kernel_rfl) (by kernel_rfl) (fun _ _ _ h => h) (Or.inl ⟨by kernel_rfl, fun W h => (by first | kernel_rfl | go_simp)⟩) hS6 ?_
      try simp only [Act.put, List.setIfInBounds_toArray, List.set_cons_zero, List.set_cons_succ]
      refine wpAnyH_take (i := 4) (oi := { dst := some 73, op := Op.move (Operand.tmp 72), type := 4, pos := "law07.go:276", after := #[{ on := 3, ground := Ground.data }, { on := 2, ground := Ground.chain }], guard := none }) (v := .bool true) rfl (by kernel_rfl) (by kernel_rfl) (by kernel_rfl) (fun _ _ _ h => h) (Or.inl ⟨by kernel_rfl, fun W h => (by first | kernel_rfl | go_simp)⟩) hS6 ?_
      try simp only [Act.put, List.setIfInBounds_toArray, List.set_cons_zero, List.set_cons_succ]
      obtain ⟨cs2, ds2, hbk, hi2, hj2⟩ := Lif.Bk.of (unhide H6) (unhide R6)
      rw [(unhide EN).1] at hi2
      rw [(unhide EN).2] at hj2
      have hit : IsImg cs T.disk := by rw [ED]; exact hi
      have zi2 := hi2.size
      have zj2 := hj2.size
      have QN := fun W => eqlImg hi2 hit W
      have QD := fun W => eqlImg hj2 hit W
      rw [Img.same_iff.2 (Img.Agree.refl T.disk)] at QN QD
      have B6 := hide (unhide H6).bel
      clear hS hS6 R6 EN
      refine wpAnyH_mono (S' := Lif.Bk bl bf' bc' g7 cs2 ds2 cs) (fun _ _ => trivial) _ _ _ _ ?_
      refine wpAnyH_take (i := 5) (oi := { dst := some 74, op := Op.move (Operand.tmp 5), type := 25, pos := "law07.go:276", after := #[{ on := 4, ground := Ground.guard }], guard := some (4, true) }) (v := .pointer (some ⟨bl, 0, none⟩)) rfl (by kernel_rfl) (by kernel_rfl) (by kernel_rfl) (fun _ _ _ h => h) (Or.inl ⟨by kernel_rfl, fun W h => (by first | kernel_rfl | go_simp)⟩) hbk ?_
      try simp only [Act.put, List.setIfInBounds_toArray, List.set_cons_zero, List.set_cons_succ]
      refine wpAnyH_take (i := 6) (oi := { dst := some 75, op := Op.nilCheck (Operand.tmp 74), type := 0, pos := "law07.go:276", after := #[{ on := 5, ground := Ground.data }, { on := 4, ground := Ground.guard }], guard := some (4, true) }) (v := .pointer (some ⟨bl, 0, none⟩)) rfl (by kernel_rfl) (by kernel_rfl) (by kernel_rfl) (fun _ _ _ h => h) (Or.inl ⟨by kernel_rfl, fun W h => (by first | kernel_rfl | go_simp)⟩) hbk ?_
      try simp only [Act.put, List.setIfInBounds_toArray, List.set_cons_zero, List.set_cons_succ]
      refine wpAnyH_take (i := 7) (oi := { dst := some 76, op := Op.fieldAddr 50 (Operand.tmp 75) 0, type := 0, pos := "law07.go:276", after := #[{ on := 6, ground := Ground.data }, { on := 4, ground := Ground.guard }], guard := some (4, true) }) (v := .pointer (some ⟨bl, 0, none⟩)) rfl (by kernel_rfl) (by kernel_rfl) (by kernel_rfl) (fun _ _ _ h => h) (Or.inl ⟨by kernel_rfl, fun W h => (by first | kernel_rfl | go_simp)⟩) hbk ?_
      try simp only [Act.put, List.setIfInBounds_toArray, List.set_cons_zero, List.set_cons_succ]
      refine wpAnyH_take (i := 8) (oi := { dst := some 77, op := Op.load 46 (Operand.tmp 76), type := 46, pos := "law07.go:276", after := #[{ on := 7, ground := Ground.data }, { on := 4, ground := Ground.guard }], guard := some (4, true) }) (v := .pointer (some ⟨bf', 0, none⟩)) rfl (by kernel_rfl) (by kernel_rfl) (by kernel_rfl) (fun _ _ _ h => h) (Or.inl ⟨by kernel_rfl, fun W h => Op1.ld_files (.tmp 76) (by kernel_rfl) (by kernel_rfl) W h.p0⟩) hbk ?_
      try simp only [Act.put, List.setIfInBounds_toArray, List.set_cons_zero, List.set_cons_succ]
      refine wpAnyH_take (i := 9) (oi := { dst := some 78, op := Op.nilCheck (Operand.tmp 77), type := 0, pos := "law07.go:276", after := #[{ on := 8, ground := Ground.data }, { on := 4, ground := Ground.guard }], guard := some (4, true) }) (v := .pointer (some ⟨bf', 0, none⟩)) rfl (by kernel_rfl) (by kernel_rfl) (by kernel_rfl) (fun _ _ _ h => h) (Or.inl ⟨by kernel_rfl, fun W h => (by first | kernel_rfl | go_simp)⟩) hbk ?_
      try simp only [Act.put, List.setIfInBounds_toArray, List.set_cons_zero, List.set_cons_succ]
      refine wpAnyH_take (i := 10) (oi := { dst := some 79, op := Op.fieldAddr 53 (Operand.tmp 78) 0, type := 0, pos := "law07.go:276", after := #[{ on := 9, ground := Ground.data }, { on := 4, ground := Ground.guard }], guard := some (4, true) }) (v := .pointer (some ⟨bf', 0, none⟩)) rfl (by kernel_rfl) (by kernel_rfl) (by kernel_rfl) (fun _ _ _ h => h) (Or.inl ⟨by kernel_rfl, fun W h => (by first | kernel_rfl | go_simp)⟩) hbk ?_
      try simp only [Act.put, List.setIfInBounds_toArray, List.set_cons_zero, List.set_cons_succ]
      refine wpAnyH_take (i := 11) (oi := { dst := some 80, op := Op.load 51 (Operand.tmp 79), type := 51, pos := "law07.go:276", after := #[{ on := 10, ground := Ground.data }, { on := 4, ground := Ground.guard }], guard := some (4, true) }) (v := .pointer (some ⟨bc', 0, none⟩)) rfl (by kernel_rfl) (by kernel_rfl) (by kernel_rfl) (fun _ _ _ h => h) (Or.inl ⟨by kernel_rfl, fun W h => Lif.ld_cache (.tmp 79) (by kernel_rfl) (by kernel_rfl) W h.p1⟩) hbk ?_
      try simp only [Act.put, List.setIfInBounds_toArray, List.set_cons_zero, List.set_cons_succ]
      refine wpAnyH_take (i := 12) (oi := { dst := some 81, op := Op.nilCheck (Operand.tmp 80), type := 0, pos := "law07.go:276", after := #[{ on := 11, ground := Ground.data }, { on := 4, ground := Ground.guard }], guard := some (4, true) }) (v := .pointer (some ⟨bc', 0, none⟩)) rfl (by kernel_rfl) (by kernel_rfl) (by kernel_rfl) (fun _ _ _ h => h) (Or.inl ⟨by kernel_rfl, fun W h => (by first | kernel_rfl | go_simp)⟩) hbk ?_
      try simp only [Act.put, List.setIfInBounds_toArray, List.set_cons_zero, List.set_cons_succ]
      refine wpAnyH_take (i := 13) (oi := { dst := some 82, op := Op.fieldAddr 57 (Operand.tmp 81) 0, type := 0, pos := "law07.go:276", after := #[{ on := 12, ground := Ground.data }, { on := 4, ground := Ground.guard }], guard := some (4, true) }) (v := .pointer (some ⟨bc', 0, none⟩)) rfl (by kernel_rfl) (by kernel_rfl) (by kernel_rfl) (fun _ _ _ h => h) (Or.inl ⟨by kernel_rfl, fun W h => (by first | kernel_rfl | go_simp)⟩) hbk ?_
      try simp only [Act.put, List.setIfInBounds_toArray, List.set_cons_zero, List.set_cons_succ]
      refine wpAnyH_take (i := 14) (oi := { dst := some 83, op := Op.load 44 (Operand.tmp 82), type := 44, pos := "law07.go:276", after := #[{ on := 13, ground := Ground.data }, { on := 4, ground := Ground.guard }], guard := some (4, true) }) (v := .agg cs2) rfl (by kernel_rfl) (by kernel_rfl) (by kernel_rfl) (fun _ _ _ h => h) (Or.inl ⟨by kernel_rfl, fun W h => Lif.ld_img (off := 0) (.tmp 82) (by kernel_rfl) (by kernel_rfl) W h.row (by simp [zi2]) (app_fst zi2)⟩) hbk ?_
      try simp only [Act.put, List.setIfInBounds_toArray, List.set_cons_zero, List.set_cons_succ]
      refine wpAnyH_take (i := 15) (oi := { dst := some 84, op := Op.load 44 (Operand.tmp 7), type := 44, pos := "law07.go:276", after := #[{ on := 4, ground := Ground.guard }], guard := some (4, true) }) (v := .agg cs) rfl (by kernel_rfl) (by kernel_rfl) (by kernel_rfl) (fun _ _ _ h => h) (Or.inl ⟨by kernel_rfl, fun W h => Lif.ld_img (off := 0) (.tmp 7) (by kernel_rfl) (by kernel_rfl) W h.box (by rw [zi]; omega) (by rw [Nat.zero_add, show 94 = cs.size from zi.symm]; simp)⟩) hbk ?_
      try simp only [Act.put, List.setIfInBounds_toArray, List.set_cons_zero, List.set_cons_succ]
      refine wpAnyH_take (i := 16) (oi := { dst := some 85, op := Op.binOp BinOp.eql 44 (Operand.tmp 83) (Operand.tmp 84) 44, type := 4, pos := "law07.go:276", after := #[{ on := 14, ground := Ground.data }, { on := 15, ground := Ground.data }, { on := 4, ground := Ground.guard }], guard := some (4, true) }) (v := .bool true) rfl (by kernel_rfl) (by kernel_rfl) (by kernel_rfl) (fun _ _ _ h => h) (Or.inl ⟨by kernel_rfl, fun W h => run_exec_eqv 44 44 (.tmp 83) (.tmp 84) (by kernel_rfl) cs2 cs (by kernel_rfl) (by kernel_rfl) true (by kernel_rfl) QN W⟩) hbk ?_
      try simp only [Act.put, List.setIfInBounds_toArray, List.set_cons_zero, List.set_cons_succ]
      refine wpAnyH_take (i := 17) (oi := { dst := some 86, op := Op.pick (Operand.tmp 73) (Operand.tmp 85) (Operand.const (Value.bool false)), type := 4, pos := "law07.go:276", after := #[{ on := 4, ground := Ground.data }, { on := 16, ground := Ground.data }], guard := none }) (v := .bool true) rfl (by kernel_rfl) (by kernel_rfl) (by kernel_rfl) (fun _ _ _ h => h) (Or.inl ⟨by kernel_rfl, fun W h => (by first | kernel_rfl | go_simp)⟩) hbk ?_
      try simp only [Act.put, List.setIfInBounds_toArray, List.set_cons_zero, List.set_cons_succ]
      refine wpAnyH_take (i := 18) (oi := { dst := some 87, op := Op.move (Operand.tmp 86), type := 4, pos := "law07.go:276", after := #[{ on := 17, ground := Ground.data }, { on := 4, ground := Ground.chain }], guard := none }) (v := .bool true) rfl (by kernel_rfl) (by kernel_rfl) (by kernel_rfl) (fun _ _ _ h => h) (Or.inl ⟨by kernel_rfl, fun W h => (by first | kernel_rfl | go_simp)⟩) hbk ?_
      try simp only [Act.put, List.setIfInBounds_toArray, List.set_cons_zero, List.set_cons_succ]
      refine wpAnyH_take (i := 19) (oi := { dst := some 88, op := Op.move (Operand.tmp 5), type := 25, pos := "law07.go:276", after := #[{ on := 18, ground := Ground.guard }], guard := some (18, true) }) (v := .pointer (some ⟨bl, 0, none⟩)) rfl (by kernel_rfl) (by kernel_rfl) (by kernel_rfl) (fun _ _ _ h => h) (Or.inl ⟨by kernel_rfl, fun W h => (by first | kernel_rfl | go_simp)⟩) hbk ?_
      try simp only [Act.put, List.setIfInBounds_toArray, List.set_cons_zero, List.set_cons_succ]
      refine wpAnyH_take (i := 20) (oi := { dst := some 89, op := Op.nilCheck (Operand.tmp 88), type := 0, pos := "law07.go:276", after := #[{ on := 19, ground := Ground.data }, { on := 18, ground := Ground.guard }], guard := some (18, true) }) (v := .pointer (some ⟨bl, 0, none⟩)) rfl (by kernel_rfl) (by kernel_rfl) (by kernel_rfl) (fun _ _ _ h => h) (Or.inl ⟨by kernel_rfl, fun W h => (by first | kernel_rfl | go_simp)⟩) hbk ?_
      try simp only [Act.put, List.setIfInBounds_toArray, List.set_cons_zero, List.set_cons_succ]
      refine wpAnyH_take (i := 21) (oi := { dst := some 90, op := Op.fieldAddr 50 (Operand.tmp 89) 0, type := 0, pos := "law07.go:276", after := #[{ on := 20, ground := Ground.data }, { on := 18, ground := Ground.guard }], guard := some (18, true) }) (v := .pointer (some ⟨bl, 0, none⟩)) rfl (by kernel_rfl) (by kernel_rfl) (by kernel_rfl) (fun _ _ _ h => h) (Or.inl ⟨by kernel_rfl, fun W h => (by first | kernel_rfl | go_simp)⟩) hbk ?_
      try simp only [Act.put, List.setIfInBounds_toArray, List.set_cons_zero, List.set_cons_succ]
      refine wpAnyH_take (i := 22) (oi := { dst := some 91, op := Op.load 46 (Operand.tmp 90), type := 46, pos := "law07.go:276", after := #[{ on := 21, ground := Ground.data }, { on := 18, ground := Ground.guard }], guard := some (18, true) }) (v := .pointer (some ⟨bf', 0, none⟩)) rfl (by kernel_rfl) (by kernel_rfl) (by kernel_rfl) (fun _ _ _ h => h) (Or.inl ⟨by kernel_rfl, fun W h => Op1.ld_files (.tmp 90) (by kernel_rfl) (by kernel_rfl) W h.p0⟩) hbk ?_
      try simp only [Act.put, List.setIfInBounds_toArray, List.set_cons_zero, List.set_cons_succ]
      refine wpAnyH_take (i := 23) (oi := { dst := some 92, op := Op.nilCheck (Operand.tmp 91), type := 0, pos := "law07.go:276", after := #[{ on := 22, ground := Ground.data }, { on := 18, ground := Ground.guard }], guard := some (18, true) }) (v := .pointer (some ⟨bf', 0, none⟩)) rfl (by kernel_rfl) (by kernel_rfl) (by kernel_rfl) (fun _ _ _ h => h) (Or.inl ⟨by kernel_rfl, fun W h => (by first | kernel_rfl | go_simp)⟩) hbk ?_
      try simp only [Act.put, List.setIfInBounds_toArray, List.set_cons_zero, List.set_cons_succ]
      refine wpAnyH_take (i := 24) (oi := { dst := some 93, op := Op.fieldAddr 53 (Operand.tmp 92) 0, type := 0, pos := "law07.go:276", after := #[{ on := 23, ground := Ground.data }, { on := 18, ground := Ground.guard }], guard := some (18, true) }) (v := .pointer (some ⟨bf', 0, none⟩)) rfl (by kernel_rfl) (by kernel_rfl) (by kernel_rfl) (fun _ _ _ h => h) (Or.inl ⟨by kernel_rfl, fun W h => (by first | kernel_rfl | go_simp)⟩) hbk ?_
      try simp only [Act.put, List.setIfInBounds_toArray, List.set_cons_zero, List.set_cons_succ]
      refine wpAnyH_take (i := 25) (oi := { dst := some 94, op := Op.load 51 (Operand.tmp 93), type := 51, pos := "law07.go:276", after := #[{ on := 24, ground := Ground.data }, { on := 18, ground := Ground.guard }], guard := some (18, true) }) (v := .pointer (some ⟨bc', 0, none⟩)) rfl (by kernel_rfl) (by kernel_rfl) (by kernel_rfl) (fun _ _ _ h => h) (Or.inl ⟨by kernel_rfl, fun W h => Lif.ld_cache (.tmp 93) (by kernel_rfl) (by kernel_rfl) W h.p1⟩) hbk ?_
      try simp only [Act.put, List.setIfInBounds_toArray, List.set_cons_zero, List.set_cons_succ]
      refine wpAnyH_take (i := 27) (oi := { dst := some 96, op := Op.load 44 (Operand.tmp 7), type := 44, pos := "law07.go:276", after := #[{ on := 18, ground := Ground.guard }], guard := some (18, true) }) (v := .agg cs) rfl (by kernel_rfl) (by kernel_rfl) (by kernel_rfl) (fun _ _ _ h => h) (Or.inl ⟨by kernel_rfl, fun W h => Lif.ld_img (off := 0) (.tmp 7) (by kernel_rfl) (by kernel_rfl) W h.box (by rw [zi]; omega) (by rw [Nat.zero_add, show 94 = cs.size from zi.symm]; simp)⟩) hbk ?_
      try simp only [Act.put, List.setIfInBounds_toArray, List.set_cons_zero, List.set_cons_succ]
      refine wpAnyH_ready (rs := [26]) (by kernel_rfl) (by simp) ?_
      refine AllReadyH.cons (o := { dst := some 95, op := Op.call { callee := Callee.value (Operand.func 18), args := #[Operand.tmp 94], argTypes := #[51] }, type := 44, pos := "law07.go:276", after := #[{ on := 25, ground := Ground.data }, { on := 18, ground := Ground.chain }, { on := 18, ground := Ground.guard }], guard := some (18, true) }) rfl (fun K hK => ?_) AllReadyH.nil
      rw [if_pos (by kernel_rfl)]
      go_simp
      refine (disk_any bc' cs2 ds2 _ _ hi2 hj2 _ hbk.row).mono ?_
      rintro e w7 ⟨rfl, b7⟩
      have B7 := hide ((unhide B6).trans (b7.mono (unhide B6).size))
      have hb7 := hbk.below b7
      clear b7
      go_wp2_with fail
      refine hK.out _ _ (hb7) (fun hS7 => ?_)
      clear hK K
      try simp only [Act.put, List.setIfInBounds_toArray, List.set_cons_zero, List.set_cons_succ]
      refine wpAnyH_take (i := 28) (oi := { dst := some 97, op := Op.binOp BinOp.eql 44 (Operand.tmp 95) (Operand.tmp 96) 44, type := 4, pos := "law07.go:276", after := #[{ on := 26, ground := Ground.data }, { on := 27, ground := Ground.data }, { on := 18, ground := Ground.guard }], guard := some (18, true) }) (v := .bool true) rfl (by kernel_rfl) (by kernel_rfl) (by kernel_rfl) (fun _ _ _ h => h) (Or.inl ⟨by kernel_rfl, fun W h => run_exec_eqv 44 44 (.tmp 95) (.tmp 96) (by kernel_rfl) ds2 cs (by kernel_rfl) (by kernel_rfl) true (by kernel_rfl) QD W⟩) hS7 ?_
      try simp only [Act.put, List.setIfInBounds_toArray, List.set_cons_zero, List.set_cons_succ]
      refine wpAnyH_take (i := 29) (oi := { dst := some 98, op := Op.pick (Operand.tmp 87) (Operand.tmp 97) (Operand.const (Value.bool false)), type := 4, pos := "law07.go:276", after := #[{ on := 18, ground := Ground.data }, { on := 28, ground := Ground.data }], guard := none }) (v := .bool true) rfl (by kernel_rfl) (by kernel_rfl) (by kernel_rfl) (fun _ _ _ h => h) (Or.inl ⟨by kernel_rfl, fun W h => (by first | kernel_rfl | go_simp)⟩) hS7 ?_
      try simp only [Act.put, List.setIfInBounds_toArray, List.set_cons_zero, List.set_cons_succ]
      refine wpAnyH_take (i := 30) (oi := { dst := some 4, op := Op.assign (Operand.tmp 98), type := 4, pos := "law07.go:276", after := #[{ on := 29, ground := Ground.data }, { on := 26, ground := Ground.chain }, { on := 0, ground := Ground.phase }, { on := 1, ground := Ground.phase }, { on := 2, ground := Ground.phase }, { on := 3, ground := Ground.phase }, { on := 4, ground := Ground.phase }, { on := 5, ground := Ground.phase }, { on := 6, ground := Ground.phase }, { on := 7, ground := Ground.phase }, { on := 8, ground := Ground.phase }, { on := 9, ground := Ground.phase }, { on := 10, ground := Ground.phase }, { on := 11, ground := Ground.phase }, { on := 12, ground := Ground.phase }, { on := 13, ground := Ground.phase }, { on := 14, ground := Ground.phase }, { on := 15, ground := Ground.phase }, { on := 16, ground := Ground.phase }, { on := 17, ground := Ground.phase }, { on := 18, ground := Ground.phase }, { on := 19, ground := Ground.phase }, { on := 20, ground := Ground.phase }, { on := 21, ground := Ground.phase }, { on := 22, ground := Ground.phase }, { on := 23, ground := Ground.phase }, { on := 24, ground := Ground.phase }, { on := 25, ground := Ground.phase }, { on := 26, ground := Ground.phase }, { on := 27, ground := Ground.phase }, { on := 28, ground := Ground.phase }, { on := 29, ground := Ground.phase }], guard := none }) (v := .bool true) rfl (by kernel_rfl) (by kernel_rfl) (by kernel_rfl) (fun _ _ _ h => h) (Or.inl ⟨by kernel_rfl, fun W h => (by first | kernel_rfl | go_simp)⟩) hS7 ?_
      try simp only [Act.put, List.setIfInBounds_toArray, List.set_cons_zero, List.set_cons_succ]
      refine wpAnyH_done (by kernel_rfl) ?_ _
      clear hS7 hb7 hbk
      go_wp2_with fail
      go_ret
      exact ⟨rfl, unhide B7⟩
end Go.Proofs.YtmbpckmpnnmnmacGreat
namespace Go.Proofs.YtmbpckmpnnmnmacGreat
open Go.ChangeShapes Go.WideShapes Go.ChangeAt Go.RowKit
open Idl (open_steps Steps)
namespace Lif
set_option maxRecDepth 100000 in
theorem lifeNever_lifted (os : Os) (started : os.Started) (H : Type) (enc : TypeId × Value → H) :
    ReturnsInHanded {} Tryz.checked os 10 .any (Rows.lifeNeverSpec.pre6 enc Tryz.prog Tryz.f10 Rows.lifeNeverRow.domain false) (Rows.lifeNeverSpec.post enc Tryz.prog Tryz.f10 false true false false) := by
  refine returnsInHanded_of_change_sized (C := Tryz.checked) Idl.TryI.own started (by kernel_rfl) Tryz.func10
    (ChangeSpec.witness6 (enc := enc) (C := Tryz.checked) false ⟨#[], #[.slice none 0 0, .slice none 0 0], []⟩ 8 (by kernel_rfl) (by kernel_rfl) (by kernel_rfl) (by kernel_rfl)) ?_
  intro W base args ds gs before hval0 hW _ hsz0 _
  have hsz : (DataW.weightsEach Tryz.prog (Tryz.f10.params.toList ++ Rows.lifeNeverSpec.plain.varTypes Tryz.prog) (ds ++ gs)).all (· ≤ reachBytes) = true := hsz0
  clear hsz0
  have hval : ∀ (j : Nat) t v, Tryz.f10.params[j]? = some t → args[j]? = some v → Value.okWide Tryz.prog W .any base t v := hval0
  have hW' := hW
  obtain ⟨p, q, hA0, hV, rfl, _, _⟩ := hW
  have hA : DataW.TrodAll enc Tryz.prog W 0 (fun _ => true) true Tryz.f10.params.toList args.toList ds p := hA0
  rw [Tryz.params10] at hA hval hsz
  obtain ⟨v0, v1, d0, d1, p0, p1, rfl, rfl, rfl, h0, h1⟩ := trodAll_two hA
  obtain ⟨rfl, rfl⟩ := trodVars_none hV
  obtain ⟨a0, len, cap, rfl⟩ := okWide_slice Tryz.underlying22 (hval 0 22 v0 rfl rfl)
  obtain ⟨a1, len1, cap1, rfl⟩ := okWide_slice Tryz.underlying22 (hval 1 22 v1 rfl rfl)
  have lt1 : ∀ y ∈ p1, y.block < W.heap.size := by obtain ⟨n, hn⟩ := h1; exact DataW.trod_lt n _ _ _ hn
  have lt0 : ∀ y ∈ p0, y.block < W.heap.size := by obtain ⟨n, hn⟩ := h0; exact DataW.trod_lt n _ _ _ hn
  clear hA0 hval0
  have w0 : ∀ n ∈ d0.weights Tryz.prog 22, n ≤ reachBytes := fun n hn => by
    simpa using List.all_eq_true.1 hsz _ (DataW.weights_mem_each (j := 0) (t := 22) (d := d0) rfl rfl n hn)
  have w1 : ∀ n ∈ d1.weights Tryz.prog 22, n ≤ reachBytes := fun n hn => by
    simpa using List.all_eq_true.1 hsz _ (DataW.weights_mem_each (j := 1) (t := 22) (d := d1) rfl rfl n hn)
  obtain ⟨L, hL⟩ := open_steps h0 w0
  obtain ⟨L2, hL2⟩ := open_steps h1 w1
  refine (lifeNever_any hL hL2).mono fun e W' ⟨he, bel⟩ => ?_
  subst he
  exact ⟨_, rfl, _, _, _, [], _, [], hW', trodAll_mk1 (shut_bool Tryz.underlying4 _), (trodAll_cons_mk (Below.trod Idl.TryI.laidOut (by kernel_rfl) (of_decide_eq_true (by kernel_rfl)) h0 bel lt0) (trodAll_cons_mk (Below.trod Idl.TryI.laidOut (by kernel_rfl) (of_decide_eq_true (by kernel_rfl)) h1 bel lt1) trodAll_mk0)), rfl, bel.frame _, fun h => by cases h⟩
end Lif
theorem lifeNever_holds : Rows.LifeNeverSaid :=
  OpenClaim.holds_of_wide 10 Tryz.f10 rfl rfl rfl rfl rfl rfl rfl ⟨rfl, rfl, rfl, rfl, rfl⟩ rfl rfl rfl rfl rfl (by kernel_rfl) Tryz.func10 (by kernel_rfl)
    (of_decide_eq_true (by kernel_rfl)) (by unfold Func.isWrapper; first | (rw [if_pos (by decide +kernel)]; kernel_rfl) | (rw [if_neg (by decide +kernel)]; exact ⟨rfl, rfl⟩))
    (fun os started H enc _ => Lif.lifeNever_lifted os started H enc)
#print axioms lifeNever_holds
end Go.Proofs.YtmbpckmpnnmnmacGreat
