/-
  The law LifeSync: its walk. (Written by genhg.py.)
-/
import Derived.Test.YtmbpckmpnnmnmacGreatYx
import Derived.Test.YtmbpckmpnnmnmacGreatYr
import Derived.Test.YtmbpckmpnnmnmacGreatYk
import Derived.Test.YtmbpckmpnnmnmacGreatYm
namespace Go.Proofs.YtmbpckmpnnmnmacGreat
open Go.RowKit
open Idl (Stp chk stpA)
theorem agree_synced {S : Lv} {n : Nat} (h : S.Ok n) : Img.Agree S.now (Img.syn S.now 8 S.disk).2 := h.hold.lies.clean h.hold.good.ex
theorem dirty_clean (m : Img) {b : Nat} (hb : b < 14) : Img.dirty m m (b : Int) = false := by
  have h := Img.dirty_any m m
  rw [Img.same_iff.2 (Img.Agree.refl m), Bool.not_true, Img.anyB_false] at h
  exact h b hb
theorem Fo.cln {w W : World} {bf bc : Nat} {m k : Img} {last : Int} (h : Fo w bf bc m k last W) : Calls Tryz.prog 30 #[.pointer (some ⟨bc, 0, none⟩)] W fun e w' => e = .returned (.bool (Img.sameImg m k)) ∧ Below W.heap.size W w' := by
  obtain ⟨cs, ds, f⟩ := h.it
  exact clean_any bc cs ds m k f.now f.disk W f.row
theorem Fo.drt {w W : World} {bf bc : Nat} {m k : Img} {last : Int} (h : Fo w bf bc m k last W) (b : Int) : Calls Tryz.prog 31 #[.pointer (some ⟨bc, 0, none⟩), .int .i64 b] W fun e w' => e = .returned (.bool (Img.dirty m k b)) ∧ Below W.heap.size W w' := by
  obtain ⟨cs, ds, f⟩ := h.it
  exact cDirty_any bc cs ds m k f.now f.disk b W f.row
theorem dat_info2 : (Tryz.prog.info? 41).map (·.size) = some 2 := by kernel_rfl
theorem lost_f0 (a b c : Int) (w : World) : (Instr.field 48 (.agg #[.int .i64 a, .int .i64 b, .int .i64 c]) 0).run Tryz.prog w = .ok (.int .i64 a) w := by kernel_rfl
theorem lost_f1 (a b c : Int) (w : World) : (Instr.field 48 (.agg #[.int .i64 a, .int .i64 b, .int .i64 c]) 1).run Tryz.prog w = .ok (.int .i64 b) w := by kernel_rfl
theorem dat_all0 : (#[.int .i64 0, .string ⟨#[]⟩] : Array Value).all (·.oneCell') = true := by kernel_rfl
theorem splice_dat {c : Array Value} (h : c.size = 94) {x : Nat} (hx : x < 9) (o : Int) (t : ByteArray) : splice c (76 + x * 2) #[.int .i64 o, .string t] = put2v c x o t := by
  have := splice2 (ds := #[]) h hx o t
  simpa using this
set_option maxHeartbeats 8000000 in
set_option maxRecDepth 100000 in
theorem lifeSync_any {w : World} {v : Value} {L : List Stp} (hs : Idl.Steps w v L) :
    Calls Tryz.prog 7 #[v] w fun e w' => e = .returned (.bool true) ∧ Below w.heap.size w w' := by
  have z := zero_img.1
  have hbg := Lif.begun_any w
  have HG := hide fun W (bW : Below w.heap.size w W) => Idl.greatSteps_any (hs.below bW)
  have HOk := hide hs.ok
  have hgl : Idl.greats L = false → L.length ≤ 200 := fun h => by
    simp only [Idl.greats, Bool.or_eq_false_iff, decide_eq_false_iff_not] at h
    omega
  have HGL := hide hgl
  obtain ⟨a, c, rfl, hst⟩ := Sft.Steps.gen hs
  have HST := hide hst
  clear hs hgl hst
  go_enter Tryz.func7, Tryz.ntmps7
  go_wp2_with fail
  refine hbg.mono ?_
  rintro e w1 ⟨rfl, b1⟩
  have B1 := hide b1
  have hg := unhide HG w1 b1
  clear b1 hbg
  cases hgr : Idl.greats L <;> rw [hgr] at hg
  case true =>
    clear hgr
    go_wp2_with fail
    refine hg.mono ?_
    rintro e w2 ⟨rfl, b2⟩
    have B2 := hide ((unhide B1).trans (b2.mono (unhide B1).size))
    clear b2 hg
    go_wp2_with fail
    go_ret
    exact ⟨rfl, unhide B2⟩
  have h200 := unhide HGL hgr
  clear hgr HGL HG
  go_wp2_with fail
  refine hg.mono ?_
  rintro e w2 ⟨rfl, b2⟩
  have B2 := hide ((unhide B1).trans (b2.mono (unhide B1).size))
  clear b2 hg B1
  go_wp2_with fail
  refine (lNew_any w (unhide B2)).mono ?_
  rintro e w3 ⟨bl, bf0, bc0, rfl, _, _, _, h3, _⟩
  have H3 := hide h3
  clear h3 B2
  go_wp2_with fail
  go_loopw [4] (fun i wr => ∃ (j bf bc : Nat) (S : Lv), j ≤ L.length ∧ i = .int .i64 j ∧ Hid (Lo w bl bf bc S wr) ∧ Hid (S.Ok j)) (fun i _ => L.length - (intOf i).toNat)
  case atStart => exact ⟨0, bf0, bc0, Lv.new, Nat.zero_le _, rfl, H3, hide Lv.Ok.start⟩
  case round =>
    clear H3
    obtain ⟨j, bf, bc, S, hj, rfl, HF, HK⟩ := hrel
    by_cases hlt : j < L.length
    case pos =>
      have hjn : (j : Int) < (L.length : Int) := by omega
      obtain ⟨ga, oa, rfl, hga, hca⟩ := unhide HST j hlt
      have hxo := unhide HOk L[j] (List.getElem_mem hlt)
      generalize L[j] = x at hca hxo
      have HXO := hide hxo.big
      have HCA := hide hca
      have S0 := unhide HCA _ (unhide HF).bel
      have D := hide (lStep_any (unhide HF) (unhide HK) (by omega) x (unhide HXO).1 (unhide HXO).2.1 (unhide HXO).2.2)
      have K1 := hide ((unhide HK).any x)
      clear hca hxo HST HOk hga
      go_wp2_with (first | (refine wpList_value rfl (Lif.ix_step (c := c) _ _ rfl (g := ga) (q := oa) (n := L.length) (j := j) rfl rfl hlt _) ?_) | (refine wpList_value rfl (Lif.ld_step _ rfl rfl x _ S0) ?_))
      refine (unhide D).mono ?_
      rintro e w4 ⟨rfl, bf', bc', h4, _⟩
      have H4 := hide h4
      clear h4 D S0 HF
      go_wp2_with fail
      go_roundw
      case rel => exact ⟨j + 1, bf', bc', _, by omega, by go_num, H4, K1⟩
      case measure => simp [intOf]; omega
    clear HST HOk
    have q0 := (unhide HF).ptr
    have q1 := (unhide HF).ptr2
    have C8 := hide (unhide HF).fo.sync
    have N3 := Img.syn_three (unhide HK).hold.good.ex (unhide HK).hold.lies
    generalize (Img.syn S.now 8 S.disk).1 = N at C8 N3
    obtain ⟨Ni, hNi⟩ : ∃ i : Int, i = (N : Int) := ⟨_, rfl⟩
    rw [← hNi] at C8
    have g3 : decide (3 < Ni) = false := by simp; omega
    clear hNi N3
    go_wp2_with fail
    refine (unhide C8).mono ?_
    rintro e w4 ⟨rfl, hf, hm⟩
    have H4 := hide ((Fo.fmut (unhide HF) hf hm).1.clean (agree_synced (unhide HK)))
    have K4 := hide (show Lv.Ok { S with disk := S.now } j from (unhide HK).clean)
    clear hf hm C8 HF HK q0 q1
    have H4 : Hid (Lo w bl bf bc { S with disk := S.now } w4) := H4
    generalize hT : ({ S with disk := S.now } : Lv) = T at H4 K4
    have eT : T.disk = T.now := by rw [← hT]
    clear hT
    have q0 := (unhide H4).ptr
    have q1 := (unhide H4).ptr2
    have CL := hide (unhide H4).fo.cln
    rw [eT, Img.same_iff.2 (Img.Agree.refl T.now)] at CL
    go_wp2_with fail
    refine (unhide CL).mono ?_
    rintro e w5 ⟨rfl, b5⟩
    have H5 := hide ((unhide H4).call b5)
    clear b5 CL H4 q0 q1
    have q0 := (unhide H5).ptr
    have q1 := (unhide H5).ptr2
    have C8 := hide (unhide H5).fo.sync
    rw [eT, Img.syn_stop (Img.same_iff.2 (Img.Agree.refl T.now))] at C8
    go_wp2_with fail
    refine (unhide C8).mono ?_
    rintro e w6 ⟨rfl, hf, hm⟩
    have H6 := hide (Fo.fmut (unhide H5) hf hm).1
    have H6 : Hid (Lo w bl bf bc { T with disk := T.now } w6) := H6
    rw [show ({ T with disk := T.now } : Lv) = T from congrArg (fun d => ({ T with disk := d } : Lv)) eT.symm] at H6
    clear hf hm C8 H5 q0 q1
    go_wp2_with fail
    go_loopw [6] (fun i wr => ∃ b : Nat, b ≤ 14 ∧ i = .int .i64 b ∧ Hid (Lo w bl bf bc T wr)) (fun i _ => 14 - (intOf i).toNat)
    case atStart => exact ⟨0, Nat.zero_le _, rfl, H6⟩
    case round =>
      clear H6
      obtain ⟨b, hb, rfl, HB⟩ := hrel
      have q0 := (unhide HB).ptr
      have q1 := (unhide HB).ptr2
      by_cases hb14 : b < 14
      case pos =>
        have t14 : decide ((b : Int) < 14) = true := by simp; omega
        have DR := hide ((unhide HB).fo.drt (b : Int))
        rw [eT, dirty_clean T.now hb14] at DR
        go_wp2_with fail
        refine (unhide DR).mono ?_
        rintro e w7 ⟨rfl, b7⟩
        have H7 := hide ((unhide HB).call b7)
        clear b7 DR HB q0 q1
        go_wp2_with fail
        go_roundw
        case rel => exact ⟨b + 1, by omega, by go_num, H7⟩
        case measure => simp [intOf]; omega
      have t14 : decide ((b : Int) < 14) = false := by simp; omega
      clear hb hb14
      obtain ⟨cs, ds, fl⟩ := (unhide HB).fo.it
      have r1 := hide fl.row
      have hi := fl.now
      have zi := hi.size
      have hle : 0 + 94 ≤ (cs ++ ds).size := by simp [zi]
      clear fl
      have s1 := hide (heap_alloc_last wr (.cells zeroCells 44))
      have BA := hide (below_setRow ((Below.refl wr.heap.size wr).alloc (Nat.le_refl _) (.cells zeroCells 44)) (Nat.le_refl wr.heap.size) cs)
      have RA := hide (setRow_heap (wr.alloc (.cells zeroCells 44)) wr.heap.size _ cs _ _ (heap_alloc_last wr (.cells zeroCells 44)))
      have NG := hide (show wr.heap.size ≠ bl ∧ wr.heap.size ≠ bf ∧ wr.heap.size ≠ bc by have := (unhide HB).lt; have := (unhide HB).fo.cells.2.1; have := (unhide HB).fo.cells.2.2.1; omega)
      go_wp2_with (first | (have hx := unhide r1; refine wpList_load_part rfl 44 _ rfl bc 0 94 rfl 57 (cs ++ ds) _ hx img_under rfl zero_img.2 hle ?_; rw [app_fst zi]; clear hx r1) | (have hx := unhide s1; refine wpList_store_row rfl 44 _ _ rfl wr.heap.size cs rfl rfl 44 zeroCells hx (img_info (hi).size) (zero_size hi) (hi).all ?_; clear hx s1; generalize (wr.alloc (.cells zeroCells 44)).setRow wr.heap.size cs = X8 at BA RA ⊢))
      have G7L := hide (show w.heap.size ≤ wr.heap.size from (unhide HB).bel.size)
      have H8 := hide ((unhide HB).call (unhide BA))
      generalize wr.heap.size = g7 at RA NG G7L ⊢
      have s0 : Idl.none0.size ≤ maxLen := Sft.small _ (Nat.zero_le _)
      have D9 := hide (lStep_any (unhide H8) (unhide K4) (by omega) Lif.y5 s0 s0 s0)
      rw [(T.step_nine (x := Lif.y5) rfl).1, (T.step_nine (x := Lif.y5) rfl).2] at D9
      have EX := hide (unhide K4).hold.good.ex
      simp only [stpA, Lif.y5, Idl.none0] at D9
      clear s0 BA q0 q1 HB
      go_wp2_with fail
      refine (unhide D9).mono ?_
      rintro e w9 ⟨rfl, bf', bc', h9, l9⟩
      have H9 := hide h9
      have R9 := hide (l9.row (unhide RA) (unhide NG))
      clear h9 l9 D9 H8 RA NG K4
      have ELF : T.crash.lf = 0 := by
        show ((Img.lostF T.disk : Nat) : Int) = 0
        rw [eT, (Img.ex_mend (unhide EX)).2.1]; rfl
      have ELC : T.crash.lc = 0 := by
        show ((Img.lostC T.disk : Nat) : Int) = 0
        rw [eT, (Img.ex_mend (unhide EX)).2.2]; rfl
      have L1 := hide fun W (r : Lo w bl bf' bc' T.crash W) => lLost_any r
      rw [ELF, ELC] at L1
      unfold lostA at L1
      have l1 := unhide L1 w9 (unhide H9)
      have f0 := lost_f0 0 0 T.crash.ld
      have f1 := lost_f1 0 0 T.crash.ld
      go_wp2_with fail
      refine l1.mono ?_
      rintro e w10 ⟨rfl, b10⟩
      have H10 := hide ((unhide H9).call b10)
      have R10 := hide (show w10.heap[g7]? = some (.cells cs 44) by rw [b10.block _ (Array.getElem?_eq_some_iff.1 (unhide R9).1).1]; exact (unhide R9).1)
      have l2 := unhide L1 w10 (unhide H10)
      clear b10 l1 H9
      go_wp2_with fail
      refine l2.mono ?_
      rintro e w11 ⟨rfl, b11⟩
      have H11 := hide ((unhide H10).call b11)
      have R11 := hide (show w11.heap[g7]? = some (.cells cs 44) by rw [b11.block _ (Array.getElem?_eq_some_iff.1 (unhide R10)).1]; exact unhide R10)
      have NG := hide (unhide R9).2
      clear b11 l2 L1 H10 R10 R9
      have q0 := (unhide H11).ptr
      have q1 := (unhide H11).ptr2
      obtain ⟨cs2, ds2, fl⟩ := (unhide H11).fo.it
      have r1 := hide fl.row
      have hi2 : IsImg cs2 (Img.mend T.now) := by have := fl.now; rw [show T.crash.now = Img.mend T.disk from rfl, eT] at this; exact this
      have zi2 := hi2.size
      have hle2 : 0 + 94 ≤ (cs2 ++ ds2).size := by simp [zi2]
      clear fl
      have s1 := hide (heap_alloc_last w11 (.cells zeroCells 44))
      have BA := hide (below_setRow ((Below.refl w11.heap.size w11).alloc (Nat.le_refl _) (.cells zeroCells 44)) (Nat.le_refl w11.heap.size) cs2)
      have RA := hide (setRow_heap (w11.alloc (.cells zeroCells 44)) w11.heap.size _ cs2 _ _ (heap_alloc_last w11 (.cells zeroCells 44)))
      have N78 := hide (show g7 ≠ w11.heap.size by have := (Array.getElem?_eq_some_iff.1 (unhide R11)).1; omega)
      go_wp2_with (first | (have hx := unhide r1; refine wpList_load_part rfl 44 _ rfl bc' 0 94 rfl 57 (cs2 ++ ds2) _ hx img_under rfl zero_img.2 hle2 ?_; rw [app_fst zi2]; clear hx r1) | (have hx := unhide s1; refine wpList_store_row rfl 44 _ _ rfl w11.heap.size cs2 rfl rfl 44 zeroCells hx (img_info (hi2).size) (zero_size hi2) (hi2).all ?_; clear hx s1; generalize (w11.alloc (.cells zeroCells 44)).setRow w11.heap.size cs2 = X12 at BA RA ⊢))
      have BY := hide (show By w X12 ((g7, cs, 44) :: (w11.heap.size, cs2, 44) :: []) from ⟨(unhide H11).bel.trans ((unhide BA).mono (unhide H11).bel.size), by
          intro p hp; simp at hp
          rcases hp with rfl | rfl
          · exact unhide G7L
          · exact (unhide H11).bel.size, by
          intro p hp; simp at hp
          rcases hp with rfl | rfl
          · rw [(unhide BA).block _ (Array.getElem?_eq_some_iff.1 (unhide R11)).1]; exact unhide R11
          · exact unhide RA, by simp; exact unhide N78⟩)
      generalize w11.heap.size = g8 at BY ⊢
      clear BA RA R11 NG H11 q0 q1 N78
      go_wp2_with fail
      go_loopw [9] (fun i wr => ∃ (d : Nat) (c : Array Value), d ≤ 9 ∧ i = .int .i64 d ∧ Hid (By w wr ((g7, c, 44) :: (g8, cs2, 44) :: [])) ∧ Hid (IsImg c (Img.wipeTo T.now d))) (fun i _ => 9 - (intOf i).toNat)
      case atStart => exact ⟨0, cs, Nat.zero_le _, rfl, BY, hide hi⟩
      case round =>
        clear BY
        obtain ⟨d, c, hd, rfl, BY, HC⟩ := hrel
        by_cases hd9 : d < 9
        case pos =>
          have t9 : decide ((d : Int) < 9) = true := by simp; omega
          have jd : (d : Int) < 9 := by omega
          have HO := hide (holds_any g7 (Img.wipeTo T.now d) (d : Int) wr ((unhide BY).has (g := g7) (c := c) (by simp) (unhide HC)))
          rw [Img.wipeTo_holds] at HO
          go_wp2_with fail
          refine (unhide HO).mono ?_
          rintro e wq ⟨rfl, e9⟩
          rw [e9]
          clear e9 wq HO
          cases hh : T.now.holds (d : Int)
          case true =>
            have e1 : Img.wipeTo T.now (d + 1) = Img.wipeTo T.now d := if_pos hh
            go_wp2_with fail
            go_roundw
            case rel => exact ⟨d + 1, c, by omega, by go_num, BY, by rw [e1]; exact HC⟩
            case measure => simp [intOf]; omega
          have e1 : Img.wipeTo T.now (d + 1) = (Img.wipeTo T.now d).putData d 0 ⟨#[]⟩ := if_neg (by rw [hh]; simp)
          have zc := (unhide HC).size
          have HC2 := hide ((unhide HC).putData hd9 0 ⟨#[]⟩ (Sft.small _ (Nat.zero_le _)))
          rw [← e1] at HC2
          have rg := hide ((unhide BY).row (g7, c, 44) (by simp))
          have BY2 := hide ((unhide BY).mut0 (Mv.row' (unhide rg) (put2v c d 0 ⟨#[]⟩)))
          have hl2 : 76 + d * 2 + (#[.int .i64 0, .string ⟨#[]⟩] : Array Value).size ≤ c.size := by rw [zc]; simp; omega
          go_wp2_with (have hx := unhide rg; refine wpList_store_part rfl 41 _ _ rfl g7 (76 + d * 2) #[.int .i64 0, .string ⟨#[]⟩] rfl rfl 44 c hx dat_info2 hl2 dat_all0 ?_; rw [splice_dat zc hd9]; clear hx)
          go_roundw
          case rel => exact ⟨d + 1, put2v c d 0 ⟨#[]⟩, by omega, by go_num, BY2, HC2⟩
          case measure => simp [intOf]; omega
        have t9 : decide ((d : Int) < 9) = false := by simp; omega
        have e9 : d = 9 := by omega
        subst e9
        have QE := eqlImg (unhide HC) hi2
        rw [Img.wipe_mend (unhide EX)] at QE
        have rg := hide ((unhide BY).row (g7, c, 44) (by simp))
        have rh := hide ((unhide BY).row (g8, cs2, 44) (by simp))
        have zc := (unhide HC).size
        go_wp2_with (first | (have hx := unhide rg; refine wpList_load_row rfl 44 _ rfl g7 rfl 44 c (0, 0) _ hx img_under rfl (img_info zc) ?_; clear hx rg) | (have hx := unhide rh; refine wpList_load_row rfl 44 _ rfl g8 rfl 44 cs2 (0, 0) _ hx img_under rfl (img_info zi2) ?_; clear hx rh))
        go_ret
        exact ⟨rfl, (unhide BY).below⟩
end Go.Proofs.YtmbpckmpnnmnmacGreat
namespace Go.Proofs.YtmbpckmpnnmnmacGreat
open Go.ChangeShapes Go.WideShapes Go.ChangeAt Go.RowKit
open Idl (open_steps Steps)
namespace Lif
set_option maxRecDepth 100000 in
theorem lifeSync_lifted (os : Os) (started : os.Started) (H : Type) (enc : TypeId × Value → H) :
    ReturnsInHanded {} Tryz.checked os 7 .any (Rows.lifeSyncSpec.pre6 enc Tryz.prog Tryz.f7 Rows.lifeSyncRow.domain false) (Rows.lifeSyncSpec.post enc Tryz.prog Tryz.f7 false true false false) := by
  refine returnsInHanded_of_change_sized (C := Tryz.checked) Idl.TryI.own started (by kernel_rfl) Tryz.func7
    (ChangeSpec.witness6 (enc := enc) (C := Tryz.checked) false ⟨#[], #[.slice none 0 0], []⟩ 8 (by kernel_rfl) (by kernel_rfl) (by kernel_rfl) (by kernel_rfl)) ?_
  intro W base args ds gs before hval0 hW _ hsz0 _
  have hsz : (DataW.weightsEach Tryz.prog (Tryz.f7.params.toList ++ Rows.lifeSyncSpec.plain.varTypes Tryz.prog) (ds ++ gs)).all (· ≤ reachBytes) = true := hsz0
  clear hsz0
  have hval : ∀ (j : Nat) t v, Tryz.f7.params[j]? = some t → args[j]? = some v → Value.okWide Tryz.prog W .any base t v := hval0
  have hW' := hW
  obtain ⟨p, q, hA0, hV, rfl, _, _⟩ := hW
  have hA : DataW.TrodAll enc Tryz.prog W 0 (fun _ => true) true Tryz.f7.params.toList args.toList ds p := hA0
  rw [Tryz.params7] at hA hval hsz
  obtain ⟨v0, d0, rfl, rfl, h0⟩ := trodAll_one hA
  obtain ⟨rfl, rfl⟩ := trodVars_none hV
  obtain ⟨a0, len, cap, rfl⟩ := okWide_slice Tryz.underlying22 (hval 0 22 v0 rfl rfl)
  have lt0 : ∀ y ∈ p, y.block < W.heap.size := by obtain ⟨n, hn⟩ := h0; exact DataW.trod_lt n _ _ _ hn
  clear hA0 hval0
  have w0 : ∀ n ∈ d0.weights Tryz.prog 22, n ≤ reachBytes := fun n hn => by
    simpa using List.all_eq_true.1 hsz _ (DataW.weights_mem_each (j := 0) (t := 22) (d := d0) rfl rfl n hn)
  obtain ⟨L, hL⟩ := open_steps h0 w0
  refine (lifeSync_any hL).mono fun e W' ⟨he, bel⟩ => ?_
  subst he
  exact ⟨_, rfl, _, _, _, [], _, [], hW', trodAll_mk1 (shut_bool Tryz.underlying4 _), (trodAll_cons_mk (Below.trod Idl.TryI.laidOut (by kernel_rfl) (of_decide_eq_true (by kernel_rfl)) h0 bel lt0) trodAll_mk0), rfl, bel.frame _, fun h => by cases h⟩
end Lif
theorem lifeSync_holds : Rows.LifeSyncSaid :=
  OpenClaim.holds_of_wide 7 Tryz.f7 rfl rfl rfl rfl rfl rfl rfl ⟨rfl, rfl, rfl, rfl, rfl⟩ rfl rfl rfl rfl rfl (by kernel_rfl) Tryz.func7 (by kernel_rfl)
    (of_decide_eq_true (by kernel_rfl)) (by unfold Func.isWrapper; first | (rw [if_pos (by decide +kernel)]; kernel_rfl) | (rw [if_neg (by decide +kernel)]; exact ⟨rfl, rfl⟩))
    (fun os started H enc _ => Lif.lifeSync_lifted os started H enc)
#print axioms lifeSync_holds
end Go.Proofs.YtmbpckmpnnmnmacGreat
