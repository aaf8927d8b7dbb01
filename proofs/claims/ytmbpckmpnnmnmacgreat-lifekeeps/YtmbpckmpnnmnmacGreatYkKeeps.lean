/-
  Slices of numbers; the walk of the reference's In. (Written by genhk.py.)
-/
import Derived.Test.YtmbpckmpnnmnmacGreatYx
import Derived.Test.YtmbpckmpnnmnmacGreatYr
import Derived.Test.YtmbpckmpnnmnmacGreatYk
import Derived.Test.YtmbpckmpnnmnmacGreatYw
import Derived.Test.YtmbpckmpnnmnmacGreatYm
namespace Go.Proofs.YtmbpckmpnnmnmacGreat
open Go.RowKit
open Idl (Stp chk stpA)
namespace Lif
def ints (l : List Int) : List Value := l.map (.int .i64)
theorem int_info : ∃ i, Tryz.prog.info? 3 = some i ∧ i.zero = some (.int .i64 0) ∧ i.size = 1 ∧ i.bytes = 8 := by
  have h : (Tryz.prog.info? 3).map (fun i => (i.zero, i.size, i.bytes)) = some (some (.int .i64 0), 1, 8) := by kernel_rfl
  cases hq : Tryz.prog.info? 3 with
  | none => rw [hq] at h; cases h
  | some i =>
    rw [hq] at h
    simp only [Option.map_some, Option.some.injEq, Prod.mk.injEq] at h
    exact ⟨i, rfl, h.1, h.2.1, h.2.2⟩
theorem one_int (n : Int) : ∀ u ∈ [Value.int .i64 n], u.oneCell' = true := fun u hu => by
  rcases List.mem_cons.1 hu with rfl | hu
  · rfl
  · cases hu
theorem nums_cell {w : World} {base : Nat} {v : Value} {l : List Int} (h : w.ownsRow base 3 1 v l.length (ints l)) :
    (v = .slice none 0 0 ∧ l = []) ∨ ∃ g c, v = .slice (some ⟨g, 0, none⟩) l.length c ∧ base ≤ g ∧ g < w.heap.size ∧ ∀ i (hi : i < l.length), w.cell? ⟨g, i, none⟩ = some (.int .i64 l[i]) := by
  rcases h.2 with ⟨h1, h2⟩ | ⟨g, cap, cur, h1, hb, h3, h4, h5, h6, h7⟩
  · exact .inl ⟨h1, List.eq_nil_of_length_eq_zero h2⟩
  · refine .inr ⟨g, cap, h1, hb, (Array.getElem?_eq_some_iff.1 h3).1, fun i hi => ?_⟩
    rw [cell_of_row w g _ _ _ _ h3]
    have : (ints l)[i]? = some (.int .i64 l[i]) := by simp [ints, hi]
    rw [← h7, List.getElem?_take] at this
    split at this
    · simpa using this
    · cases this
def inL (l : List Int) (n : Int) : Bool := l.any (· == n)
theorem inL_iff {l : List Int} {n : Int} : inL l n = true ↔ n ∈ l := by
  unfold inL
  rw [List.any_eq_true]
  constructor
  · rintro ⟨x, hx, e⟩; rw [← (by simpa using e : x = n)]; exact hx
  · intro h; exact ⟨n, h, by simp⟩
theorem inL_false {l : List Int} {n : Int} (h : ∀ j (hj : j < l.length), l[j] ≠ n) : inL l n = false := by
  cases e : inL l n
  · rfl
  · obtain ⟨j, hj, e2⟩ := List.getElem_of_mem (inL_iff.1 e)
    exact absurd e2 (h j hj)
set_option maxHeartbeats 1000000 in
set_option maxRecDepth 100000 in
theorem In_any {w : World} {base : Nat} {v : Value} {l : List Int} (h : w.ownsRow base 3 1 v l.length (ints l)) (hl : l.length ≤ 1000) (n : Int) :
    Calls Tryz.prog 27 #[v, .int .i64 n] w fun e w' => e = .returned (.bool (inL l n)) ∧ w' = w := by
  rcases nums_cell h with ⟨rfl, rfl⟩ | ⟨g, c, rfl, _, gl, k1⟩
  · have e0 : inL [] n = false := rfl
    rw [e0]
    clear h
    go_enter Tryz.func27, Tryz.ntmps27
    go_wp2
    go_loopw [5] (fun i wr => i = .int .i64 0 ∧ wr = w) (fun _ _ => 0)
    case atStart => exact ⟨rfl, rfl⟩
    case round =>
      obtain ⟨rfl, rfl⟩ := hrel
      go_wp2
      go_ret
      exact ⟨rfl, rfl⟩
  · have K1 := hide k1
    clear h k1
    go_enter Tryz.func27, Tryz.ntmps27
    go_wp2
    go_loopw [5] (fun i wr => ∃ k : Nat, k ≤ l.length ∧ i = .int .i64 k ∧ wr = w ∧ Hid (∀ j (hj : j < l.length), j < k → l[j] ≠ n)) (fun i _ => l.length - (intOf i).toNat)
    case atStart => exact ⟨0, Nat.zero_le _, rfl, rfl, hide fun j _ hj => by omega⟩
    case round =>
      obtain ⟨k, hk, rfl, rfl, HN⟩ := hrel
      by_cases hlt : k < l.length
      · have d1 := unhide K1 k hlt
        have hz : (k : Int) < (l.length : Int) := by omega
        have EK := hide (show l[k] = l[k] from rfl)
        by_cases hq : l[k] = n
        · have IN := hide (show inL l n = true from inL_iff.2 (hq ▸ List.getElem_mem hlt))
          rw [hq] at d1
          have q1 : (n == n) = true := by simp
          clear EK hq
          go_wp2_with fail
          go_ret
          exact ⟨by rw [unhide IN]; rfl, rfl⟩
        · have HN2 := hide (show ∀ j (hj : j < l.length), j < k + 1 → l[j] ≠ n from fun j hj h2 => by
            by_cases e : j = k
            · subst e; exact hq
            · exact unhide HN j hj (by omega))
          have q1 : (l[k] == n) = false := by simpa using hq
          clear EK hq
          generalize l[k] = y at d1 q1
          go_wp2_with fail
          go_roundw
          case rel => exact ⟨k + 1, by omega, by go_num, by first | rfl | trivial, HN2⟩
          case measure => simp [intOf]; omega
      · have IN := hide (inL_false (l := l) (n := n) (fun j hj => unhide HN j hj (by omega)))
        go_wp2
        go_ret
        exact ⟨by rw [unhide IN]; rfl, rfl⟩
theorem own0 {w : World} {base : Nat} {v : Value} {n : Nat} {xs : List Value} (h : w.ownsRow base 3 1 v n xs) : w.ownsRow 0 3 1 v n xs := by
  refine ⟨h.1, ?_⟩
  rcases h.2 with z | ⟨g, cap, cur, h1, hb, r⟩
  · exact .inl z
  · exact .inr ⟨g, cap, cur, h1, Nat.zero_le _, r⟩
theorem ownBlock_keep {w w' : World} {base : Nat} {v : Value} {l : List Int} (h : w.ownsRow base 3 1 v l.length (ints l)) (hk : ∀ g, v.ownBlock = some g → w'.heap[g]? = w.heap[g]?) : w'.ownsRow base 3 1 v l.length (ints l) := Idl.ownsRow_of_block h hk
end Lif
end Go.Proofs.YtmbpckmpnnmnmacGreat
namespace Go.Proofs.YtmbpckmpnnmnmacGreat
open Go.RowKit
open Idl (Stp chk stpA)
theorem agree_synced {S : Lv} {n : Nat} (h : S.Ok n) : Img.Agree S.now (Img.syn S.now 8 S.disk).2 := h.hold.lies.clean h.hold.good.ex
theorem dirty_clean (m : Img) {b : Nat} (hb : b < 14) : Img.dirty m m (b : Int) = false := by
  have h := Img.dirty_any m m
  rw [Img.same_iff.2 (Img.Agree.refl m), Bool.not_true, Img.anyB_false] at h
  exact h b hb
theorem Fo.cln {w W : World} {bf bc : Nat} {m k : Img} {last : Int} (h : Fo w bf bc m k last W) : Calls Tryz.prog 30 #[.pointer (some ⟨bc, 0, none⟩)] W fun e w' => e = .returned (.bool (Img.sameImg m k)) ∧ Below W.heap.size W w' := by
  obtain ⟨cs, ds, f⟩ := h.it
  exact clean_any bc cs ds m k f.now f.disk W f.row
theorem Fo.drt {w W : World} {bf bc : Nat} {m k : Img} {last : Int} (h : Fo w bf bc m k last W) (b : Int) : Calls Tryz.prog 31 #[.pointer (some ⟨bc, 0, none⟩), .int .i64 b] W fun e w' => e = .returned (.bool (Img.dirty m k b)) ∧ Below W.heap.size W w' := by
  obtain ⟨cs, ds, f⟩ := h.it
  exact cDirty_any bc cs ds m k f.now f.disk b W f.row
theorem dat_info2 : (Tryz.prog.info? 41).map (·.size) = some 2 := by kernel_rfl
theorem lost_f0 (a b c : Int) (w : World) : (Instr.field 48 (.agg #[.int .i64 a, .int .i64 b, .int .i64 c]) 0).run Tryz.prog w = .ok (.int .i64 a) w := by kernel_rfl
theorem lost_f1 (a b c : Int) (w : World) : (Instr.field 48 (.agg #[.int .i64 a, .int .i64 b, .int .i64 c]) 1).run Tryz.prog w = .ok (.int .i64 b) w := by kernel_rfl
theorem dat_all0 : (#[.int .i64 0, .string ⟨#[]⟩] : Array Value).all (·.oneCell') = true := by kernel_rfl
theorem splice_dat {c : Array Value} (h : c.size = 94) {x : Nat} (hx : x < 9) (o : Int) (t : ByteArray) : splice c (76 + x * 2) #[.int .i64 o, .string t] = put2v c x o t := by
  have := splice2 (ds := #[]) h hx o t
  simpa using this
set_option maxHeartbeats 8000000 in
set_option maxRecDepth 100000 in
theorem lifeSync_any {w : World} {v : Value} {L : List Stp} (hs : Idl.Steps w v L) :
    Calls Tryz.prog 7 #[v] w fun e w' => e = .returned (.bool true) ∧ Below w.heap.size w w' := by
  have z := zero_img.1
  have hbg := Lif.begun_any w
  have HG := hide fun W (bW : Below w.heap.size w W) => Idl.greatSteps_any (hs.below bW)
  have HOk := hide hs.ok
  have hgl : Idl.greats L = false → L.length ≤ 200 := fun h => by
    simp only [Idl.greats, Bool.or_eq_false_iff, decide_eq_false_iff_not] at h
    omega
  have HGL := hide hgl
  obtain ⟨a, c, rfl, hst⟩ := Sft.Steps.gen hs
  have HST := hide hst
  clear hs hgl hst
  go_enter Tryz.func7, Tryz.ntmps7
  go_wp2_with fail
  refine hbg.mono ?_
  rintro e w1 ⟨rfl, b1⟩
  have B1 := hide b1
  have hg := unhide HG w1 b1
  clear b1 hbg
  cases hgr : Idl.greats L <;> rw [hgr] at hg
  case true =>
    clear hgr
    go_wp2_with fail
    refine hg.mono ?_
    rintro e w2 ⟨rfl, b2⟩
    have B2 := hide ((unhide B1).trans (b2.mono (unhide B1).size))
    clear b2 hg
    go_wp2_with fail
    go_ret
    exact ⟨rfl, unhide B2⟩
  have h200 := unhide HGL hgr
  clear hgr HGL HG
  go_wp2_with fail
  refine hg.mono ?_
  rintro e w2 ⟨rfl, b2⟩
  have B2 := hide ((unhide B1).trans (b2.mono (unhide B1).size))
  clear b2 hg B1
  go_wp2_with fail
  refine (lNew_any w (unhide B2)).mono ?_
  rintro e w3 ⟨bl, bf0, bc0, rfl, _, _, _, h3, _⟩
  have H3 := hide h3
  clear h3 B2
  go_wp2_with fail
  go_loopw [4] (fun i wr => ∃ (j bf bc : Nat) (S : Lv), j ≤ L.length ∧ i = .int .i64 j ∧ Hid (Lo w bl bf bc S wr) ∧ Hid (S.Ok j)) (fun i _ => L.length - (intOf i).toNat)
  case atStart => exact ⟨0, bf0, bc0, Lv.new, Nat.zero_le _, rfl, H3, hide Lv.Ok.start⟩
  case round =>
    clear H3
    obtain ⟨j, bf, bc, S, hj, rfl, HF, HK⟩ := hrel
    by_cases hlt : j < L.length
    case pos =>
      have hjn : (j : Int) < (L.length : Int) := by omega
      obtain ⟨ga, oa, rfl, hga, hca⟩ := unhide HST j hlt
      have hxo := unhide HOk L[j] (List.getElem_mem hlt)
      generalize L[j] = x at hca hxo
      have HXO := hide hxo.big
      have HCA := hide hca
      have S0 := unhide HCA _ (unhide HF).bel
      have D := hide (lStep_any (unhide HF) (unhide HK) (by omega) x (unhide HXO).1 (unhide HXO).2.1 (unhide HXO).2.2)
      have K1 := hide ((unhide HK).any x)
      clear hca hxo HST HOk hga
      go_wp2_with (first | (refine wpList_value rfl (Lif.ix_step (c := c) _ _ rfl (g := ga) (q := oa) (n := L.length) (j := j) rfl rfl hlt _) ?_) | (refine wpList_value rfl (Lif.ld_step _ rfl rfl x _ S0) ?_))
      refine (unhide D).mono ?_
      rintro e w4 ⟨rfl, bf', bc', h4, _⟩
      have H4 := hide h4
      clear h4 D S0 HF
      go_wp2_with fail
      go_roundw
      case rel => exact ⟨j + 1, bf', bc', _, by omega, by go_num, H4, K1⟩
      case measure => simp [intOf]; omega
    clear HST HOk
    have q0 := (unhide HF).ptr
    have q1 := (unhide HF).ptr2
    have C8 := hide (unhide HF).fo.sync
    have N3 := Img.syn_three (unhide HK).hold.good.ex (unhide HK).hold.lies
    generalize (Img.syn S.now 8 S.disk).1 = N at C8 N3
    obtain ⟨Ni, hNi⟩ : ∃ i : Int, i = (N : Int) := ⟨_, rfl⟩
    rw [← hNi] at C8
    have g3 : decide (3 < Ni) = false := by simp; omega
    clear hNi N3
    go_wp2_with fail
    refine (unhide C8).mono ?_
    rintro e w4 ⟨rfl, hf, hm⟩
    have H4 := hide ((Fo.fmut (unhide HF) hf hm).1.clean (agree_synced (unhide HK)))
    have K4 := hide (show Lv.Ok { S with disk := S.now } j from (unhide HK).clean)
    clear hf hm C8 HF HK q0 q1
    have H4 : Hid (Lo w bl bf bc { S with disk := S.now } w4) := H4
    generalize hT : ({ S with disk := S.now } : Lv) = T at H4 K4
    have eT : T.disk = T.now := by rw [← hT]
    clear hT
    have q0 := (unhide H4).ptr
    have q1 := (unhide H4).ptr2
    have CL := hide (unhide H4).fo.cln
    rw [eT, Img.same_iff.2 (Img.Agree.refl T.now)] at CL
    go_wp2_with fail
    refine (unhide CL).mono ?_
    rintro e w5 ⟨rfl, b5⟩
    have H5 := hide ((unhide H4).call b5)
    clear b5 CL H4 q0 q1
    have q0 := (unhide H5).ptr
    have q1 := (unhide H5).ptr2
    have C8 := hide (unhide H5).fo.sync
    rw [eT, Img.syn_stop (Img.same_iff.2 (Img.Agree.refl T.now))] at C8
    go_wp2_with fail
    refine (unhide C8).mono ?_
    rintro e w6 ⟨rfl, hf, hm⟩
    have H6 := hide (Fo.fmut (unhide H5) hf hm).1
    have H6 : Hid (Lo w bl bf bc { T with disk := T.now } w6) := H6
    rw [show ({ T with disk := T.now } : Lv) = T from congrArg (fun d => ({ T with disk := d } : Lv)) eT.symm] at H6
    clear hf hm C8 H5 q0 q1
    go_wp2_with fail
    go_loopw [6] (fun i wr => ∃ b : Nat, b ≤ 14 ∧ i = .int .i64 b ∧ Hid (Lo w bl bf bc T wr)) (fun i _ => 14 - (intOf i).toNat)
    case atStart => exact ⟨0, Nat.zero_le _, rfl, H6⟩
    case round =>
      clear H6
      obtain ⟨b, hb, rfl, HB⟩ := hrel
      have q0 := (unhide HB).ptr
      have q1 := (unhide HB).ptr2
      by_cases hb14 : b < 14
      case pos =>
        have t14 : decide ((b : Int) < 14) = true := by simp; omega
        have DR := hide ((unhide HB).fo.drt (b : Int))
        rw [eT, dirty_clean T.now hb14] at DR
        go_wp2_with fail
        refine (unhide DR).mono ?_
        rintro e w7 ⟨rfl, b7⟩
        have H7 := hide ((unhide HB).call b7)
        clear b7 DR HB q0 q1
        go_wp2_with fail
        go_roundw
        case rel => exact ⟨b + 1, by omega, by go_num, H7⟩
        case measure => simp [intOf]; omega
      have t14 : decide ((b : Int) < 14) = false := by simp; omega
      clear hb hb14
      obtain ⟨cs, ds, fl⟩ := (unhide HB).fo.it
      have r1 := hide fl.row
      have hi := fl.now
      have zi := hi.size
      have hle : 0 + 94 ≤ (cs ++ ds).size := by simp [zi]
      clear fl
      have s1 := hide (heap_alloc_last wr (.cells zeroCells 44))
      have BA := hide (below_setRow ((Below.refl wr.heap.size wr).alloc (Nat.le_refl _) (.cells zeroCells 44)) (Nat.le_refl wr.heap.size) cs)
      have RA := hide (setRow_heap (wr.alloc (.cells zeroCells 44)) wr.heap.size _ cs _ _ (heap_alloc_last wr (.cells zeroCells 44)))
      have NG := hide (show wr.heap.size ≠ bl ∧ wr.heap.size ≠ bf ∧ wr.heap.size ≠ bc by have := (unhide HB).lt; have := (unhide HB).fo.cells.2.1; have := (unhide HB).fo.cells.2.2.1; omega)
      go_wp2_with (first | (have hx := unhide r1; refine wpList_load_part rfl 44 _ rfl bc 0 94 rfl 57 (cs ++ ds) _ hx img_under rfl zero_img.2 hle ?_; rw [app_fst zi]; clear hx r1) | (have hx := unhide s1; refine wpList_store_row rfl 44 _ _ rfl wr.heap.size cs rfl rfl 44 zeroCells hx (img_info (hi).size) (zero_size hi) (hi).all ?_; clear hx s1; generalize (wr.alloc (.cells zeroCells 44)).setRow wr.heap.size cs = X8 at BA RA ⊢))
      have G7L := hide (show w.heap.size ≤ wr.heap.size from (unhide HB).bel.size)
      have H8 := hide ((unhide HB).call (unhide BA))
      generalize wr.heap.size = g7 at RA NG G7L ⊢
      have s0 : Idl.none0.size ≤ maxLen := Sft.small _ (Nat.zero_le _)
      have D9 := hide (lStep_any (unhide H8) (unhide K4) (by omega) Lif.y5 s0 s0 s0)
      rw [(T.step_nine (x := Lif.y5) rfl).1, (T.step_nine (x := Lif.y5) rfl).2] at D9
      have EX := hide (unhide K4).hold.good.ex
      simp only [stpA, Lif.y5, Idl.none0] at D9
      clear s0 BA q0 q1 HB
      go_wp2_with fail
      refine (unhide D9).mono ?_
      rintro e w9 ⟨rfl, bf', bc', h9, l9⟩
      have H9 := hide h9
      have R9 := hide (l9.row (unhide RA) (unhide NG))
      clear h9 l9 D9 H8 RA NG K4
      have ELF : T.crash.lf = 0 := by
        show ((Img.lostF T.disk : Nat) : Int) = 0
        rw [eT, (Img.ex_mend (unhide EX)).2.1]; rfl
      have ELC : T.crash.lc = 0 := by
        show ((Img.lostC T.disk : Nat) : Int) = 0
        rw [eT, (Img.ex_mend (unhide EX)).2.2]; rfl
      have L1 := hide fun W (r : Lo w bl bf' bc' T.crash W) => lLost_any r
      rw [ELF, ELC] at L1
      unfold lostA at L1
      have l1 := unhide L1 w9 (unhide H9)
      have f0 := lost_f0 0 0 T.crash.ld
      have f1 := lost_f1 0 0 T.crash.ld
      go_wp2_with fail
      refine l1.mono ?_
      rintro e w10 ⟨rfl, b10⟩
      have H10 := hide ((unhide H9).call b10)
      have R10 := hide (show w10.heap[g7]? = some (.cells cs 44) by rw [b10.block _ (Array.getElem?_eq_some_iff.1 (unhide R9).1).1]; exact (unhide R9).1)
      have l2 := unhide L1 w10 (unhide H10)
      clear b10 l1 H9
      go_wp2_with fail
      refine l2.mono ?_
      rintro e w11 ⟨rfl, b11⟩
      have H11 := hide ((unhide H10).call b11)
      have R11 := hide (show w11.heap[g7]? = some (.cells cs 44) by rw [b11.block _ (Array.getElem?_eq_some_iff.1 (unhide R10)).1]; exact unhide R10)
      have NG := hide (unhide R9).2
      clear b11 l2 L1 H10 R10 R9
      have q0 := (unhide H11).ptr
      have q1 := (unhide H11).ptr2
      obtain ⟨cs2, ds2, fl⟩ := (unhide H11).fo.it
      have r1 := hide fl.row
      have hi2 : IsImg cs2 (Img.mend T.now) := by have := fl.now; rw [show T.crash.now = Img.mend T.disk from rfl, eT] at this; exact this
      have zi2 := hi2.size
      have hle2 : 0 + 94 ≤ (cs2 ++ ds2).size := by simp [zi2]
      clear fl
      have s1 := hide (heap_alloc_last w11 (.cells zeroCells 44))
      have BA := hide (below_setRow ((Below.refl w11.heap.size w11).alloc (Nat.le_refl _) (.cells zeroCells 44)) (Nat.le_refl w11.heap.size) cs2)
      have RA := hide (setRow_heap (w11.alloc (.cells zeroCells 44)) w11.heap.size _ cs2 _ _ (heap_alloc_last w11 (.cells zeroCells 44)))
      have N78 := hide (show g7 ≠ w11.heap.size by have := (Array.getElem?_eq_some_iff.1 (unhide R11)).1; omega)
      go_wp2_with (first | (have hx := unhide r1; refine wpList_load_part rfl 44 _ rfl bc' 0 94 rfl 57 (cs2 ++ ds2) _ hx img_under rfl zero_img.2 hle2 ?_; rw [app_fst zi2]; clear hx r1) | (have hx := unhide s1; refine wpList_store_row rfl 44 _ _ rfl w11.heap.size cs2 rfl rfl 44 zeroCells hx (img_info (hi2).size) (zero_size hi2) (hi2).all ?_; clear hx s1; generalize (w11.alloc (.cells zeroCells 44)).setRow w11.heap.size cs2 = X12 at BA RA ⊢))
      have BY := hide (show By w X12 ((g7, cs, 44) :: (w11.heap.size, cs2, 44) :: []) from ⟨(unhide H11).bel.trans ((unhide BA).mono (unhide H11).bel.size), by
          intro p hp; simp at hp
          rcases hp with rfl | rfl
          · exact unhide G7L
          · exact (unhide H11).bel.size, by
          intro p hp; simp at hp
          rcases hp with rfl | rfl
          · rw [(unhide BA).block _ (Array.getElem?_eq_some_iff.1 (unhide R11)).1]; exact unhide R11
          · exact unhide RA, by simp; exact unhide N78⟩)
      generalize w11.heap.size = g8 at BY ⊢
      clear BA RA R11 NG H11 q0 q1 N78
      go_wp2_with fail
      go_loopw [9] (fun i wr => ∃ (d : Nat) (c : Array Value), d ≤ 9 ∧ i = .int .i64 d ∧ Hid (By w wr ((g7, c, 44) :: (g8, cs2, 44) :: [])) ∧ Hid (IsImg c (Img.wipeTo T.now d))) (fun i _ => 9 - (intOf i).toNat)
      case atStart => exact ⟨0, cs, Nat.zero_le _, rfl, BY, hide hi⟩
      case round =>
        clear BY
        obtain ⟨d, c, hd, rfl, BY, HC⟩ := hrel
        by_cases hd9 : d < 9
        case pos =>
          have t9 : decide ((d : Int) < 9) = true := by simp; omega
          have jd : (d : Int) < 9 := by omega
          have HO := hide (holds_any g7 (Img.wipeTo T.now d) (d : Int) wr ((unhide BY).has (g := g7) (c := c) (by simp) (unhide HC)))
          rw [Img.wipeTo_holds] at HO
          go_wp2_with fail
          refine (unhide HO).mono ?_
          rintro e wq ⟨rfl, e9⟩
          rw [e9]
          clear e9 wq HO
          cases hh : T.now.holds (d : Int)
          case true =>
            have e1 : Img.wipeTo T.now (d + 1) = Img.wipeTo T.now d := if_pos hh
            go_wp2_with fail
            go_roundw
            case rel => exact ⟨d + 1, c, by omega, by go_num, BY, by rw [e1]; exact HC⟩
            case measure => simp [intOf]; omega
          have e1 : Img.wipeTo T.now (d + 1) = (Img.wipeTo T.now d).putData d 0 ⟨#[]⟩ := if_neg (by rw [hh]; simp)
          have zc := (unhide HC).size
          have HC2 := hide ((unhide HC).putData hd9 0 ⟨#[]⟩ (Sft.small _ (Nat.zero_le _)))
          rw [← e1] at HC2
          have rg := hide ((unhide BY).row (g7, c, 44) (by simp))
          have BY2 := hide ((unhide BY).mut0 (Mv.row' (unhide rg) (put2v c d 0 ⟨#[]⟩)))
          have hl2 : 76 + d * 2 + (#[.int .i64 0, .string ⟨#[]⟩] : Array Value).size ≤ c.size := by rw [zc]; simp; omega
          go_wp2_with (have hx := unhide rg; refine wpList_store_part rfl 41 _ _ rfl g7 (76 + d * 2) #[.int .i64 0, .string ⟨#[]⟩] rfl rfl 44 c hx dat_info2 hl2 dat_all0 ?_; rw [splice_dat zc hd9]; clear hx)
          go_roundw
          case rel => exact ⟨d + 1, put2v c d 0 ⟨#[]⟩, by omega, by go_num, BY2, HC2⟩
          case measure => simp [intOf]; omega
        have t9 : decide ((d : Int) < 9) = false := by simp; omega
        have e9 : d = 9 := by omega
        subst e9
        have QE := eqlImg (unhide HC) hi2
        rw [Img.wipe_mend (unhide EX)] at QE
        have rg := hide ((unhide BY).row (g7, c, 44) (by simp))
        have rh := hide ((unhide BY).row (g8, cs2, 44) (by simp))
        have zc := (unhide HC).size
        go_wp2_with (first | (have hx := unhide rg; refine wpList_load_row rfl 44 _ rfl g7 rfl 44 c (0, 0) _ hx img_under rfl (img_info zc) ?_; clear hx rg) | (have hx := unhide rh; refine wpList_load_row rfl 44 _ rfl g8 rfl 44 cs2 (0, 0) _ hx img_under rfl (img_info zi2) ?_; clear hx rh))
        go_ret
        exact ⟨rfl, (unhide BY).below⟩
end Go.Proofs.YtmbpckmpnnmnmacGreat
namespace Go.Proofs.YtmbpckmpnnmnmacGreat
open Go.RowKit
open Idl (Stp chk stpA)
theorem wp_value {P : Program} {o : Oper} {a : Act} {w : World} {K : Act → World → Prop} {Q : Exit → Act → World → Prop} {v : Value} (h0 : (execOp a.eval o).run P w = .ok (.value v) w) (h : K (a.put o.dst v) w) : Oper.wp P o a w K Q := by
  unfold Oper.wp
  rw [h0]
  exact h
theorem Lif.eqi {o : Oper} {ρ : Operand → Value} (x y : Operand) (ho : o.op = .binOp .eql 3 x y 3) {v : Int} (hx : ρ x = .int .i64 v) (hy : ρ y = .int .i64 v) (w : World) : (execOp ρ o).run Tryz.prog w = .ok (.value (.bool true)) w := by
  unfold execOp
  rw [ho]
  go_simp
theorem Op1.st_row0 {o : Oper} {a : Act} {K : Act → World → Prop} {Q : Exit → Act → World → Prop} {W : World} (ty : TypeId) (x y : Operand) (ho : o.op = .store ty x y) (hd : o.dst = none) {g : Nat} {cells old : Array Value} {t : TypeId} (hx : a.eval x = .pointer (some ⟨g, 0, none⟩)) (hy : a.eval y = .agg cells)
    (hg : W.heap[g]? = some (.cells old t)) (hi : (Tryz.prog.info? ty).map (·.size) = some cells.size) (hz : old.size = cells.size) (hall : cells.all (·.oneCell') = true) (h : K a (W.setRow g cells)) : Oper.wp Tryz.prog o a W K Q := by
  refine Op1.st_part ty x y ho hd hx hy hg hi (by omega) hall ?_
  have : splice old 0 cells = cells := by unfold splice; rw [← hz, Nat.zero_add, List.drop_eq_nil_of_le (by simp)]; simp
  rw [this]; exact h
namespace Lif
/-- the life's pointers and its images -/
structure Lk (bl bf bc : Nat) (cs ds : Array Value) (V : World) : Prop where
  p0 : V.cell? ⟨bl, 0, none⟩ = some (.pointer (some ⟨bf, 0, none⟩))
  p1 : V.cell? ⟨bf, 0, none⟩ = some (.pointer (some ⟨bc, 0, none⟩))
  l0 : bl < V.heap.size
  l1 : bf < V.heap.size
  row : V.heap[bc]? = some (.cells (cs ++ ds) 57)
theorem Lk.below {bl bf bc : Nat} {cs ds : Array Value} {V V' : World} (h : Lk bl bf bc cs ds V) (hb : Below V.heap.size V V') : Lk bl bf bc cs ds V' :=
  ⟨by rw [hb.cell (p := ⟨bl, 0, none⟩) h.l0]; exact h.p0, by rw [hb.cell (p := ⟨bf, 0, none⟩) h.l1]; exact h.p1, Nat.lt_of_lt_of_le h.l0 hb.size, Nat.lt_of_lt_of_le h.l1 hb.size,
    by rw [hb.block _ (Array.getElem?_eq_some_iff.1 h.row).1]; exact h.row⟩
theorem Lk.of {w W : World} {bl bf bc : Nat} {S : Lv} (h : Lo w bl bf bc S W) : ∃ cs ds, Lk bl bf bc cs ds W ∧ IsImg cs S.now ∧ IsImg ds S.disk := by
  obtain ⟨cs, ds, f⟩ := h.fo.it
  exact ⟨cs, ds, ⟨h.ptr, h.ptr2, h.lt, f.flt, f.row⟩, f.now, f.disk⟩
end Lif
set_option maxHeartbeats 8000000 in
set_option maxRecDepth 100000 in
theorem lifeAgain_any {w : World} {v : Value} {L : List Stp} (hs : Idl.Steps w v L) :
    Calls Tryz.prog 9 #[v] w fun e w' => e = .returned (.bool true) ∧ Below w.heap.size w w' := by
  have z := zero_img.1
  have hbg := Lif.begun_any w
  have HG := hide fun W (bW : Below w.heap.size w W) => Idl.greatSteps_any (hs.below bW)
  have HOk := hide hs.ok
  have hgl : Idl.greats L = false → L.length ≤ 200 := fun h => by
    simp only [Idl.greats, Bool.or_eq_false_iff, decide_eq_false_iff_not] at h
    omega
  have HGL := hide hgl
  obtain ⟨a, c, rfl, hst⟩ := Sft.Steps.gen hs
  have HST := hide hst
  clear hs hgl hst
  go_enter Tryz.func9, Tryz.ntmps9
  go_wp2_with fail
  refine hbg.mono ?_
  rintro e w1 ⟨rfl, b1⟩
  have B1 := hide b1
  have hg := unhide HG w1 b1
  clear b1 hbg
  cases hgr : Idl.greats L <;> rw [hgr] at hg
  case true =>
    clear hgr
    go_wp2_with fail
    refine hg.mono ?_
    rintro e w2 ⟨rfl, b2⟩
    have B2 := hide ((unhide B1).trans (b2.mono (unhide B1).size))
    clear b2 hg
    go_wp2_with fail
    go_ret
    exact ⟨rfl, unhide B2⟩
  have h200 := unhide HGL hgr
  clear hgr HGL HG
  go_wp2_with fail
  refine hg.mono ?_
  rintro e w2 ⟨rfl, b2⟩
  have B2 := hide ((unhide B1).trans (b2.mono (unhide B1).size))
  clear b2 hg B1
  go_wp2_with fail
  refine (lNew_any w (unhide B2)).mono ?_
  rintro e w3 ⟨bl, bf0, bc0, rfl, _, _, _, h3, _⟩
  have H3 := hide h3
  clear h3 B2
  go_wp2_with fail
  go_loopw [4] (fun i wr => ∃ (j bf bc : Nat) (S : Lv), j ≤ L.length ∧ i = .int .i64 j ∧ Hid (Lo w bl bf bc S wr) ∧ Hid (S.Ok j)) (fun i _ => L.length - (intOf i).toNat)
  case atStart => exact ⟨0, bf0, bc0, Lv.new, Nat.zero_le _, rfl, H3, hide Lv.Ok.start⟩
  case round =>
    clear H3
    obtain ⟨j, bf, bc, S, hj, rfl, HF, HK⟩ := hrel
    by_cases hlt : j < L.length
    case pos =>
      have hjn : (j : Int) < (L.length : Int) := by omega
      obtain ⟨ga, oa, rfl, hga, hca⟩ := unhide HST j hlt
      have hxo := unhide HOk L[j] (List.getElem_mem hlt)
      generalize L[j] = x at hca hxo
      have HXO := hide hxo.big
      have HCA := hide hca
      have S0 := unhide HCA _ (unhide HF).bel
      have D := hide (lStep_any (unhide HF) (unhide HK) (by omega) x (unhide HXO).1 (unhide HXO).2.1 (unhide HXO).2.2)
      have K1 := hide ((unhide HK).any x)
      clear hca hxo HST HOk hga
      go_wp2_with (first | (refine wpList_value rfl (Lif.ix_step (c := c) _ _ rfl (g := ga) (q := oa) (n := L.length) (j := j) rfl rfl hlt _) ?_) | (refine wpList_value rfl (Lif.ld_step _ rfl rfl x _ S0) ?_))
      refine (unhide D).mono ?_
      rintro e w4 ⟨rfl, bf', bc', h4, _⟩
      have H4 := hide h4
      clear h4 D S0 HF
      go_wp2_with fail
      go_roundw
      case rel => exact ⟨j + 1, bf', bc', _, by omega, by go_num, H4, K1⟩
      case measure => simp [intOf]; omega
    clear HST HOk
    have s0 : Idl.none0.size ≤ maxLen := Sft.small _ (Nat.zero_le _)
    have D9 := hide (lStep_any (unhide HF) (unhide HK) (by omega) Lif.y5 s0 s0 s0)
    rw [(S.step_nine (x := Lif.y5) rfl).1, (S.step_nine (x := Lif.y5) rfl).2] at D9
    have K9 := hide ((unhide HK).any Lif.y5)
    rw [(S.step_nine (x := Lif.y5) rfl).1] at K9
    have D9' := D9
    simp only [stpA, Lif.y5, Idl.none0] at D9'
    clear s0
    go_wp2_with fail
    refine (unhide D9').mono ?_
    rintro e w4 ⟨rfl, bf1, bc1, h4, _⟩
    have H4 := hide h4
    have AG := hide (Img.again (unhide HK).hold.ok)
    have ED : S.crash.disk = S.crash.now := rfl
    have EC : S.crash.now = Img.mend S.disk := rfl
    clear h4 D9 D9' HF
    have TN := hide (show S.crash.crash.now = S.crash.now ∧ S.crash.crash.disk = S.crash.now ∧ S.crash.crash.lf = 0 ∧ S.crash.crash.lc = 0 ∧ S.crash.crash.ld = 0 ∧ S.crash.crash.cr = S.crash.cr + 1 from ⟨(unhide AG).1, (unhide AG).1, by show ((Img.lostF (Img.mend S.disk) : Nat) : Int) = 0; rw [(unhide AG).2.1]; rfl, by show ((Img.lostC (Img.mend S.disk) : Nat) : Int) = 0; rw [(unhide AG).2.2.1]; rfl, by show ((Img.lostD (Img.mend S.disk) : Nat) : Int) = 0; rw [(unhide AG).2.2.2]; rfl, rfl⟩)
    generalize S.crash = T at H4 K9 ED EC TN
    clear AG EC HK
    have hcr : -9223372036854775808 ≤ T.cr + 1 ∧ T.cr + 1 ≤ 9223372036854775807 := by have := (unhide K9).cr0; have := (unhide K9).crn; omega
    go_upto_region 12 with fail
    have Hd := hide ((unhide H4).call (Below.refl _ w4).drew)
    obtain ⟨cs, ds, hlk, hi, hj1⟩ := Lif.Lk.of (unhide Hd)
    have zi := hi.size
    have zj := hj1.size
    refine wp_region_held_drew (S := Lif.Lk bl bf1 bc1 cs ds) (by kernel_rfl) (hlk) (fun hS => ?_)
    refine wpAnyH_take (i := 0) (oi := { dst := some 28, op := Op.move (Operand.tmp 3), type := 25, pos := "law07.go:253", after := #[], guard := none }) (v := .pointer (some ⟨bl, 0, none⟩)) rfl (by kernel_rfl) (by kernel_rfl) (by kernel_rfl) (fun _ _ _ h => h) (Or.inl ⟨by kernel_rfl, fun W h => (by first | kernel_rfl | go_simp)⟩) hS ?_
    try simp only [Act.put, List.setIfInBounds_toArray, List.set_cons_zero, List.set_cons_succ]
    refine wpAnyH_take (i := 1) (oi := { dst := some 29, op := Op.nilCheck (Operand.tmp 28), type := 0, pos := "law07.go:253", after := #[{ on := 0, ground := Ground.data }], guard := none }) (v := .pointer (some ⟨bl, 0, none⟩)) rfl (by kernel_rfl) (by kernel_rfl) (by kernel_rfl) (fun _ _ _ h => h) (Or.inl ⟨by kernel_rfl, fun W h => (by first | kernel_rfl | go_simp)⟩) hS ?_
    try simp only [Act.put, List.setIfInBounds_toArray, List.set_cons_zero, List.set_cons_succ]
    refine wpAnyH_take (i := 2) (oi := { dst := some 30, op := Op.fieldAddr 50 (Operand.tmp 29) 0, type := 0, pos := "law07.go:253", after := #[{ on := 1, ground := Ground.data }], guard := none }) (v := .pointer (some ⟨bl, 0, none⟩)) rfl (by kernel_rfl) (by kernel_rfl) (by kernel_rfl) (fun _ _ _ h => h) (Or.inl ⟨by kernel_rfl, fun W h => (by first | kernel_rfl | go_simp)⟩) hS ?_
    try simp only [Act.put, List.setIfInBounds_toArray, List.set_cons_zero, List.set_cons_succ]
    refine wpAnyH_take (i := 3) (oi := { dst := some 31, op := Op.load 46 (Operand.tmp 30), type := 46, pos := "law07.go:253", after := #[{ on := 2, ground := Ground.data }], guard := none }) (v := .pointer (some ⟨bf1, 0, none⟩)) rfl (by kernel_rfl) (by kernel_rfl) (by kernel_rfl) (fun _ _ _ h => h) (Or.inl ⟨by kernel_rfl, fun W h => Op1.ld_files (.tmp 30) (by kernel_rfl) (by kernel_rfl) W h.p0⟩) hS ?_
    try simp only [Act.put, List.setIfInBounds_toArray, List.set_cons_zero, List.set_cons_succ]
    refine wpAnyH_take (i := 4) (oi := { dst := some 32, op := Op.nilCheck (Operand.tmp 31), type := 0, pos := "law07.go:253", after := #[{ on := 3, ground := Ground.data }], guard := none }) (v := .pointer (some ⟨bf1, 0, none⟩)) rfl (by kernel_rfl) (by kernel_rfl) (by kernel_rfl) (fun _ _ _ h => h) (Or.inl ⟨by kernel_rfl, fun W h => (by first | kernel_rfl | go_simp)⟩) hS ?_
    try simp only [Act.put, List.setIfInBounds_toArray, List.set_cons_zero, List.set_cons_succ]
    refine wpAnyH_take (i := 5) (oi := { dst := some 33, op := Op.fieldAddr 53 (Operand.tmp 32) 0, type := 0, pos := "law07.go:253", after := #[{ on := 4, ground := Ground.data }], guard := none }) (v := .pointer (some ⟨bf1, 0, none⟩)) rfl (by kernel_rfl) (by kernel_rfl) (by kernel_rfl) (fun _ _ _ h => h) (Or.inl ⟨by kernel_rfl, fun W h => (by first | kernel_rfl | go_simp)⟩) hS ?_
    try simp only [Act.put, List.setIfInBounds_toArray, List.set_cons_zero, List.set_cons_succ]
    refine wpAnyH_take (i := 6) (oi := { dst := some 34, op := Op.load 51 (Operand.tmp 33), type := 51, pos := "law07.go:253", after := #[{ on := 5, ground := Ground.data }], guard := none }) (v := .pointer (some ⟨bc1, 0, none⟩)) rfl (by kernel_rfl) (by kernel_rfl) (by kernel_rfl) (fun _ _ _ h => h) (Or.inl ⟨by kernel_rfl, fun W h => Lif.ld_cache (.tmp 33) (by kernel_rfl) (by kernel_rfl) W h.p1⟩) hS ?_
    try simp only [Act.put, List.setIfInBounds_toArray, List.set_cons_zero, List.set_cons_succ]
    refine wpAnyH_take (i := 7) (oi := { dst := some 35, op := Op.nilCheck (Operand.tmp 34), type := 0, pos := "law07.go:253", after := #[{ on := 6, ground := Ground.data }], guard := none }) (v := .pointer (some ⟨bc1, 0, none⟩)) rfl (by kernel_rfl) (by kernel_rfl) (by kernel_rfl) (fun _ _ _ h => h) (Or.inl ⟨by kernel_rfl, fun W h => (by first | kernel_rfl | go_simp)⟩) hS ?_
    try simp only [Act.put, List.setIfInBounds_toArray, List.set_cons_zero, List.set_cons_succ]
    refine wpAnyH_take (i := 8) (oi := { dst := some 36, op := Op.fieldAddr 57 (Operand.tmp 35) 0, type := 0, pos := "law07.go:253", after := #[{ on := 7, ground := Ground.data }], guard := none }) (v := .pointer (some ⟨bc1, 0, none⟩)) rfl (by kernel_rfl) (by kernel_rfl) (by kernel_rfl) (fun _ _ _ h => h) (Or.inl ⟨by kernel_rfl, fun W h => (by first | kernel_rfl | go_simp)⟩) hS ?_
    try simp only [Act.put, List.setIfInBounds_toArray, List.set_cons_zero, List.set_cons_succ]
    refine wpAnyH_take (i := 9) (oi := { dst := some 37, op := Op.load 44 (Operand.tmp 36), type := 44, pos := "law07.go:253", after := #[{ on := 8, ground := Ground.data }], guard := none }) (v := .agg cs) rfl (by kernel_rfl) (by kernel_rfl) (by kernel_rfl) (fun _ _ _ h => h) (Or.inl ⟨by kernel_rfl, fun W h => Lif.ld_img (off := 0) (.tmp 36) (by kernel_rfl) (by kernel_rfl) W h.row (by simp [zi]) (app_fst zi)⟩) hS ?_
    try simp only [Act.put, List.setIfInBounds_toArray, List.set_cons_zero, List.set_cons_succ]
    refine wpAnyH_take (i := 10) (oi := { dst := some 38, op := Op.move (Operand.tmp 3), type := 25, pos := "law07.go:253", after := #[], guard := none }) (v := .pointer (some ⟨bl, 0, none⟩)) rfl (by kernel_rfl) (by kernel_rfl) (by kernel_rfl) (fun _ _ _ h => h) (Or.inl ⟨by kernel_rfl, fun W h => (by first | kernel_rfl | go_simp)⟩) hS ?_
    try simp only [Act.put, List.setIfInBounds_toArray, List.set_cons_zero, List.set_cons_succ]
    have BA := hide (show Below w4.drew.heap.size w4.drew (w4.drew.alloc (.cells zeroCells 44)) from (Below.refl _ _).alloc (Nat.le_refl _) _)
    have HA := hide ((unhide Hd).call (unhide BA))
    have hlkA := hlk.below (unhide BA)
    have s1 := hide (show (w4.drew.alloc (.cells zeroCells 44)).heap[w4.heap.size]? = some (.cells zeroCells 44) from heap_alloc_last w4.drew (.cells zeroCells 44))
    have BB := hide (show Below w4.drew.heap.size w4.drew ((w4.drew.alloc (.cells zeroCells 44)).setRow w4.heap.size cs) from below_setRow ((Below.refl w4.drew.heap.size w4.drew).alloc (Nat.le_refl _) (.cells zeroCells 44)) (Nat.le_refl w4.drew.heap.size) cs)
    have RB := hide (setRow_heap (w4.drew.alloc (.cells zeroCells 44)) w4.heap.size _ cs _ _ (unhide s1))
    have NG := hide (show w4.heap.size ≠ bl ∧ w4.heap.size ≠ bf1 ∧ w4.heap.size ≠ bc1 by have := (unhide H4).lt; have := (unhide H4).fo.cells.2.1; have := (unhide H4).fo.cells.2.2.1; omega)
    have HB := hide ((unhide Hd).call (unhide BB))
    have hlkB := hlk.below (unhide BB)
    clear H4
    refine wpAnyH_ready (rs := [11, 12]) (by kernel_rfl) (by simp) ?_
    refine AllReadyH.cons (o := { dst := some 39, op := Op.call { callee := Callee.value (Operand.func 19), args := #[Operand.tmp 38], argTypes := #[25] }, type := 3, pos := "law07.go:253", after := #[{ on := 10, ground := Ground.data }], guard := none }) rfl (fun K hK => ?_) (AllReadyH.cons (o := { dst := some 5, op := Op.alloc 44, type := 0, pos := "law07.go:253", after := #[], guard := none }) rfl (fun K hK => ?_) AllReadyH.nil)
    · rw [if_pos (by kernel_rfl)]
      go_simp
      refine (lCrashes_any (unhide Hd)).mono ?_
      rintro e wq ⟨rfl, e9⟩
      rw [e9]
      clear e9 wq
      go_wp2_with fail
      refine hK.out _ _ hlk (fun hS2 => ?_)
      clear hK K
      try simp only [Act.put, List.setIfInBounds_toArray, List.set_cons_zero, List.set_cons_succ]
      refine wpAnyH_ready (rs := [12]) (by kernel_rfl) (by simp) ?_
      refine AllReadyH.cons (o := { dst := some 5, op := Op.alloc 44, type := 0, pos := "law07.go:253", after := #[], guard := none }) rfl (fun K hK => ?_) AllReadyH.nil
      rw [if_pos (by kernel_rfl)]
      go_simp
      refine hK.out _ _ hlkA (fun hS3 => ?_)
      clear hK K
      try simp only [Act.put, List.setIfInBounds_toArray, List.set_cons_zero, List.set_cons_succ]
      refine wpAnyH_ready (rs := [13]) (by kernel_rfl) (by simp) ?_
      refine AllReadyH.cons (o := { dst := none, op := Op.store 44 (Operand.tmp 5) (Operand.tmp 37), type := 0, pos := "law07.go:253", after := #[{ on := 12, ground := Ground.data }, { on := 9, ground := Ground.data }, { on := 11, ground := Ground.chain }, { on := 0, ground := Ground.phase }, { on := 1, ground := Ground.phase }, { on := 2, ground := Ground.phase }, { on := 3, ground := Ground.phase }, { on := 4, ground := Ground.phase }, { on := 5, ground := Ground.phase }, { on := 6, ground := Ground.phase }, { on := 7, ground := Ground.phase }, { on := 8, ground := Ground.phase }, { on := 9, ground := Ground.phase }, { on := 10, ground := Ground.textOnly Departure.lateStores }, { on := 11, ground := Ground.textOnly Departure.lateStoresUnsure }, { on := 12, ground := Ground.phase }], guard := none }) rfl (fun K hK => ?_) AllReadyH.nil
      rw [if_pos (by kernel_rfl)]
      refine Op1.st_row0 44 (.tmp 5) (.tmp 37) (by kernel_rfl) (by kernel_rfl) (g := w4.heap.size) (cells := cs) (by kernel_rfl) (by kernel_rfl) (t := 44) (old := zeroCells) (unhide s1) (img_info zi) (zero_size hi) hi.all ?_
      refine hK.out _ _ hlkB (fun hS4 => ?_)
      clear hK K
      try simp only [Act.put, List.setIfInBounds_toArray, List.set_cons_zero, List.set_cons_succ]
      refine wpAnyH_take (i := 14) (oi := { dst := some 6, op := Op.assign (Operand.tmp 39), type := 3, pos := "law07.go:253", after := #[{ on := 11, ground := Ground.data }, { on := 13, ground := Ground.chain }, { on := 0, ground := Ground.phase }, { on := 1, ground := Ground.phase }, { on := 2, ground := Ground.phase }, { on := 3, ground := Ground.phase }, { on := 4, ground := Ground.phase }, { on := 5, ground := Ground.phase }, { on := 6, ground := Ground.phase }, { on := 7, ground := Ground.phase }, { on := 8, ground := Ground.phase }, { on := 9, ground := Ground.phase }, { on := 10, ground := Ground.phase }, { on := 11, ground := Ground.phase }, { on := 12, ground := Ground.phase }, { on := 13, ground := Ground.phase }], guard := none }) (v := .int .i64 T.cr) rfl (by kernel_rfl) (by kernel_rfl) (by kernel_rfl) (fun _ _ _ h => h) (Or.inl ⟨by kernel_rfl, fun W h => (by first | kernel_rfl | go_simp)⟩) hS4 ?_
      try simp only [Act.put, List.setIfInBounds_toArray, List.set_cons_zero, List.set_cons_succ]
      refine wpAnyH_done (by kernel_rfl) ?_ _
      clear hS hS2 hS3 hS4 hlk hlkA hlkB Hd HA BA s1
      have HB : Hid (Lo w bl bf1 bc1 T ((w4.alloc (.cells zeroCells 44)).drew.setRow w4.heap.size cs)) := HB
      have RB : Hid (((w4.alloc (.cells zeroCells 44)).drew.setRow w4.heap.size cs).heap[w4.heap.size]? = some (.cells cs 44)) := RB
      generalize (w4.alloc (.cells zeroCells 44)).drew.setRow w4.heap.size cs = X5 at HB RB ⊢
      generalize w4.heap.size = g5 at RB NG ⊢
      go_upto_region 13 with fail
      have H5 := hide ((unhide HB).call (Below.refl _ X5).drew)
      have R5 : Hid (X5.drew.heap[g5]? = some (.cells cs 44)) := RB
      have q0 := (unhide H5).ptr
      have q1 := (unhide H5).ptr2
      clear HB RB BB
      refine wp_region_held_drew (S := fun _ => True) (by kernel_rfl) (trivial) (fun hS => ?_)
      refine wpAnyH_take (i := 0) (oi := { dst := some 40, op := Op.move (Operand.tmp 3), type := 25, pos := "law07.go:254", after := #[], guard := none }) (v := .pointer (some ⟨bl, 0, none⟩)) rfl (by kernel_rfl) (by kernel_rfl) (by kernel_rfl) (fun _ _ _ h => h) (Or.inl ⟨by kernel_rfl, fun W h => (by first | kernel_rfl | go_simp)⟩) hS ?_
      try simp only [Act.put, List.setIfInBounds_toArray, List.set_cons_zero, List.set_cons_succ]
      refine wpAnyH_take (i := 1) (oi := { dst := some 41, op := Op.nilCheck (Operand.tmp 40), type := 0, pos := "law07.go:254", after := #[{ on := 0, ground := Ground.data }], guard := none }) (v := .pointer (some ⟨bl, 0, none⟩)) rfl (by kernel_rfl) (by kernel_rfl) (by kernel_rfl) (fun _ _ _ h => h) (Or.inl ⟨by kernel_rfl, fun W h => (by first | kernel_rfl | go_simp)⟩) hS ?_
      try simp only [Act.put, List.setIfInBounds_toArray, List.set_cons_zero, List.set_cons_succ]
      refine wpAnyH_take (i := 2) (oi := { dst := some 42, op := Op.fieldAddr 50 (Operand.tmp 41) 0, type := 0, pos := "law07.go:254", after := #[{ on := 1, ground := Ground.data }], guard := none }) (v := .pointer (some ⟨bl, 0, none⟩)) rfl (by kernel_rfl) (by kernel_rfl) (by kernel_rfl) (fun _ _ _ h => h) (Or.inl ⟨by kernel_rfl, fun W h => (by first | kernel_rfl | go_simp)⟩) hS ?_
      try simp only [Act.put, List.setIfInBounds_toArray, List.set_cons_zero, List.set_cons_succ]
      refine wpAnyH_ready (rs := [3]) (by kernel_rfl) (by simp) ?_
      refine AllReadyH.cons (o := { dst := some 43, op := Op.load 46 (Operand.tmp 42), type := 46, pos := "law07.go:254", after := #[{ on := 2, ground := Ground.data }], guard := none }) rfl (fun K hK => ?_) AllReadyH.nil
      rw [if_pos (by kernel_rfl)]
      refine wp_value (v := .pointer (some ⟨bf1, 0, none⟩)) (Op1.ld_files (.tmp 42) (by kernel_rfl) (by kernel_rfl) _ q0) ?_
      refine hK.out _ _ hS (fun _ => ?_)
      clear hK K
      try simp only [Act.put, List.setIfInBounds_toArray, List.set_cons_zero, List.set_cons_succ]
      refine wpAnyH_take (i := 4) (oi := { dst := some 44, op := Op.nilCheck (Operand.tmp 43), type := 0, pos := "law07.go:254", after := #[{ on := 3, ground := Ground.data }], guard := none }) (v := .pointer (some ⟨bf1, 0, none⟩)) rfl (by kernel_rfl) (by kernel_rfl) (by kernel_rfl) (fun _ _ _ h => h) (Or.inl ⟨by kernel_rfl, fun W h => (by first | kernel_rfl | go_simp)⟩) hS ?_
      try simp only [Act.put, List.setIfInBounds_toArray, List.set_cons_zero, List.set_cons_succ]
      refine wpAnyH_take (i := 5) (oi := { dst := some 45, op := Op.fieldAddr 53 (Operand.tmp 44) 0, type := 0, pos := "law07.go:254", after := #[{ on := 4, ground := Ground.data }], guard := none }) (v := .pointer (some ⟨bf1, 0, none⟩)) rfl (by kernel_rfl) (by kernel_rfl) (by kernel_rfl) (fun _ _ _ h => h) (Or.inl ⟨by kernel_rfl, fun W h => (by first | kernel_rfl | go_simp)⟩) hS ?_
      try simp only [Act.put, List.setIfInBounds_toArray, List.set_cons_zero, List.set_cons_succ]
      refine wpAnyH_ready (rs := [6]) (by kernel_rfl) (by simp) ?_
      refine AllReadyH.cons (o := { dst := some 46, op := Op.load 51 (Operand.tmp 45), type := 51, pos := "law07.go:254", after := #[{ on := 5, ground := Ground.data }], guard := none }) rfl (fun K hK => ?_) AllReadyH.nil
      rw [if_pos (by kernel_rfl)]
      refine wp_value (v := .pointer (some ⟨bc1, 0, none⟩)) (Lif.ld_cache (.tmp 45) (by kernel_rfl) (by kernel_rfl) _ q1) ?_
      refine hK.out _ _ hS (fun _ => ?_)
      clear hK K
      try simp only [Act.put, List.setIfInBounds_toArray, List.set_cons_zero, List.set_cons_succ]
      have CL := hide (unhide H5).fo.cln
      rw [ED, Img.same_iff.2 (Img.Agree.refl T.now)] at CL
      refine wpAnyH_ready (rs := [7]) (by kernel_rfl) (by simp) ?_
      refine AllReadyH.cons (o := { dst := some 47, op := Op.call { callee := Callee.value (Operand.func 30), args := #[Operand.tmp 46], argTypes := #[51] }, type := 4, pos := "law07.go:254", after := #[{ on := 6, ground := Ground.data }], guard := none }) rfl (fun K hK => ?_) AllReadyH.nil
      rw [if_pos (by kernel_rfl)]
      go_simp
      refine (unhide CL).mono ?_
      rintro e w6 ⟨rfl, b6⟩
      have H6 := hide ((unhide H5).call b6)
      have R6 := hide (show w6.heap[g5]? = some (.cells cs 44) by rw [b6.block _ (Array.getElem?_eq_some_iff.1 (unhide R5)).1]; exact unhide R5)
      clear b6 CL H5 R5 q0 q1
      go_wp2_with fail
      refine hK.out _ _ (trivial) (fun hS6 => ?_)
      clear hK K
      try simp only [Act.put, List.setIfInBounds_toArray, List.set_cons_zero, List.set_cons_succ]
      refine wpAnyH_take (i := 8) (oi := { dst := some 48, op := Op.move (Operand.tmp 47), type := 4, pos := "law07.go:254", after := #[{ on := 7, ground := Ground.data }, { on := 7, ground := Ground.chain }], guard := none }) (v := .bool true) rfl (by kernel_rfl) (by kernel_rfl) (by kernel_rfl) (fun _ _ _ h => h) (Or.inl ⟨by kernel_rfl, fun W h => (by first | kernel_rfl | go_simp)⟩) hS6 ?_
      try simp only [Act.put, List.setIfInBounds_toArray, List.set_cons_zero, List.set_cons_succ]
      refine wpAnyH_take (i := 9) (oi := { dst := some 49, op := Op.move (Operand.tmp 3), type := 25, pos := "law07.go:254", after := #[{ on := 8, ground := Ground.guard }], guard := some (8, true) }) (v := .pointer (some ⟨bl, 0, none⟩)) rfl (by kernel_rfl) (by kernel_rfl) (by kernel_rfl) (fun _ _ _ h => h) (Or.inl ⟨by kernel_rfl, fun W h => (by first | kernel_rfl | go_simp)⟩) hS6 ?_
      try simp only [Act.put, List.setIfInBounds_toArray, List.set_cons_zero, List.set_cons_succ]
      refine wpAnyH_take (i := 10) (oi := { dst := some 50, op := Op.build 31 #[(0, Operand.const (Value.int IntKind.i64 9))], type := 31, pos := "law07.go:254", after := #[{ on := 8, ground := Ground.guard }], guard := some (8, true) }) (v := .agg (stpA Lif.y5)) rfl (by kernel_rfl) (by kernel_rfl) (by kernel_rfl) (fun _ _ _ h => h) (Or.inl ⟨by kernel_rfl, fun W h => (by first | kernel_rfl | go_simp)⟩) hS6 ?_
      try simp only [Act.put, List.setIfInBounds_toArray, List.set_cons_zero, List.set_cons_succ]
      have D6 := hide (lStep_any (unhide H6) (unhide K9) (by omega) Lif.y5 (Sft.small _ (Nat.zero_le _)) (Sft.small _ (Nat.zero_le _)) (Sft.small _ (Nat.zero_le _)))
      rw [(T.step_nine (x := Lif.y5) rfl).1, (T.step_nine (x := Lif.y5) rfl).2] at D6
      refine wpAnyH_ready (rs := [11]) (by kernel_rfl) (by simp) ?_
      refine AllReadyH.cons (o := { dst := some 51, op := Op.call { callee := Callee.value (Operand.func 16), args := #[Operand.tmp 49, Operand.tmp 50], argTypes := #[25, 31] }, type := 3, pos := "law07.go:254", after := #[{ on := 9, ground := Ground.data }, { on := 10, ground := Ground.data }, { on := 8, ground := Ground.chain }, { on := 8, ground := Ground.guard }], guard := some (8, true) }) rfl (fun K hK => ?_) AllReadyH.nil
      rw [if_pos (by kernel_rfl)]
      go_simp
      refine (unhide D6).mono ?_
      rintro e w7 ⟨rfl, bf', bc', h7, l7⟩
      have H7 := hide h7
      have R7 := hide (l7.row (unhide R6) (unhide NG)).1
      clear h7 l7 D6 H6 R6
      go_wp2_with fail
      refine hK.out _ _ (trivial) (fun hS7 => ?_)
      clear hK K
      try simp only [Act.put, List.setIfInBounds_toArray, List.set_cons_zero, List.set_cons_succ]
      refine wpAnyH_take (i := 12) (oi := { dst := some 52, op := Op.binOp BinOp.eql 3 (Operand.tmp 51) (Operand.const (Value.int IntKind.i64 0)) 3, type := 4, pos := "law07.go:254", after := #[{ on := 11, ground := Ground.data }, { on := 8, ground := Ground.guard }], guard := some (8, true) }) (v := .bool true) rfl (by kernel_rfl) (by kernel_rfl) (by kernel_rfl) (fun _ _ _ h => h) (Or.inl ⟨by kernel_rfl, fun W h => (by first | kernel_rfl | go_simp)⟩) hS7 ?_
      try simp only [Act.put, List.setIfInBounds_toArray, List.set_cons_zero, List.set_cons_succ]
      refine wpAnyH_take (i := 13) (oi := { dst := some 53, op := Op.pick (Operand.tmp 48) (Operand.tmp 52) (Operand.const (Value.bool false)), type := 4, pos := "law07.go:254", after := #[{ on := 8, ground := Ground.data }, { on := 12, ground := Ground.data }], guard := none }) (v := .bool true) rfl (by kernel_rfl) (by kernel_rfl) (by kernel_rfl) (fun _ _ _ h => h) (Or.inl ⟨by kernel_rfl, fun W h => (by first | kernel_rfl | go_simp)⟩) hS7 ?_
      try simp only [Act.put, List.setIfInBounds_toArray, List.set_cons_zero, List.set_cons_succ]
      refine wpAnyH_take (i := 14) (oi := { dst := some 54, op := Op.move (Operand.tmp 53), type := 4, pos := "law07.go:254", after := #[{ on := 13, ground := Ground.data }, { on := 11, ground := Ground.chain }], guard := none }) (v := .bool true) rfl (by kernel_rfl) (by kernel_rfl) (by kernel_rfl) (fun _ _ _ h => h) (Or.inl ⟨by kernel_rfl, fun W h => (by first | kernel_rfl | go_simp)⟩) hS7 ?_
      try simp only [Act.put, List.setIfInBounds_toArray, List.set_cons_zero, List.set_cons_succ]
      obtain ⟨cs2, ds2, hbk, hi2, hj2⟩ := Lif.Bk.of (unhide H7) (unhide R7)
      rw [(unhide TN).1] at hi2
      rw [(unhide TN).2.1] at hj2
      have zi2 := hi2.size
      have zj2 := hj2.size
      have QN := fun W => eqlImg hi2 hi W
      rw [Img.same_iff.2 (Img.Agree.refl T.now)] at QN
      clear hS hS6 hS7 R7
      refine wpAnyH_mono (S' := Lif.Bk bl bf' bc' g5 cs2 ds2 cs) (fun _ _ => trivial) _ _ _ _ ?_
      refine wpAnyH_take (i := 15) (oi := { dst := some 55, op := Op.move (Operand.tmp 3), type := 25, pos := "law07.go:254", after := #[{ on := 14, ground := Ground.guard }], guard := some (14, true) }) (v := .pointer (some ⟨bl, 0, none⟩)) rfl (by kernel_rfl) (by kernel_rfl) (by kernel_rfl) (fun _ _ _ h => h) (Or.inl ⟨by kernel_rfl, fun W h => (by first | kernel_rfl | go_simp)⟩) hbk ?_
      try simp only [Act.put, List.setIfInBounds_toArray, List.set_cons_zero, List.set_cons_succ]
      refine wpAnyH_take (i := 16) (oi := { dst := some 56, op := Op.nilCheck (Operand.tmp 55), type := 0, pos := "law07.go:254", after := #[{ on := 15, ground := Ground.data }, { on := 14, ground := Ground.guard }], guard := some (14, true) }) (v := .pointer (some ⟨bl, 0, none⟩)) rfl (by kernel_rfl) (by kernel_rfl) (by kernel_rfl) (fun _ _ _ h => h) (Or.inl ⟨by kernel_rfl, fun W h => (by first | kernel_rfl | go_simp)⟩) hbk ?_
      try simp only [Act.put, List.setIfInBounds_toArray, List.set_cons_zero, List.set_cons_succ]
      refine wpAnyH_take (i := 17) (oi := { dst := some 57, op := Op.fieldAddr 50 (Operand.tmp 56) 0, type := 0, pos := "law07.go:254", after := #[{ on := 16, ground := Ground.data }, { on := 14, ground := Ground.guard }], guard := some (14, true) }) (v := .pointer (some ⟨bl, 0, none⟩)) rfl (by kernel_rfl) (by kernel_rfl) (by kernel_rfl) (fun _ _ _ h => h) (Or.inl ⟨by kernel_rfl, fun W h => (by first | kernel_rfl | go_simp)⟩) hbk ?_
      try simp only [Act.put, List.setIfInBounds_toArray, List.set_cons_zero, List.set_cons_succ]
      refine wpAnyH_take (i := 18) (oi := { dst := some 58, op := Op.load 46 (Operand.tmp 57), type := 46, pos := "law07.go:254", after := #[{ on := 17, ground := Ground.data }, { on := 14, ground := Ground.guard }], guard := some (14, true) }) (v := .pointer (some ⟨bf', 0, none⟩)) rfl (by kernel_rfl) (by kernel_rfl) (by kernel_rfl) (fun _ _ _ h => h) (Or.inl ⟨by kernel_rfl, fun W h => Op1.ld_files (.tmp 57) (by kernel_rfl) (by kernel_rfl) W h.p0⟩) hbk ?_
      try simp only [Act.put, List.setIfInBounds_toArray, List.set_cons_zero, List.set_cons_succ]
      refine wpAnyH_take (i := 19) (oi := { dst := some 59, op := Op.nilCheck (Operand.tmp 58), type := 0, pos := "law07.go:254", after := #[{ on := 18, ground := Ground.data }, { on := 14, ground := Ground.guard }], guard := some (14, true) }) (v := .pointer (some ⟨bf', 0, none⟩)) rfl (by kernel_rfl) (by kernel_rfl) (by kernel_rfl) (fun _ _ _ h => h) (Or.inl ⟨by kernel_rfl, fun W h => (by first | kernel_rfl | go_simp)⟩) hbk ?_
      try simp only [Act.put, List.setIfInBounds_toArray, List.set_cons_zero, List.set_cons_succ]
      refine wpAnyH_take (i := 20) (oi := { dst := some 60, op := Op.fieldAddr 53 (Operand.tmp 59) 0, type := 0, pos := "law07.go:254", after := #[{ on := 19, ground := Ground.data }, { on := 14, ground := Ground.guard }], guard := some (14, true) }) (v := .pointer (some ⟨bf', 0, none⟩)) rfl (by kernel_rfl) (by kernel_rfl) (by kernel_rfl) (fun _ _ _ h => h) (Or.inl ⟨by kernel_rfl, fun W h => (by first | kernel_rfl | go_simp)⟩) hbk ?_
      try simp only [Act.put, List.setIfInBounds_toArray, List.set_cons_zero, List.set_cons_succ]
      refine wpAnyH_take (i := 21) (oi := { dst := some 61, op := Op.load 51 (Operand.tmp 60), type := 51, pos := "law07.go:254", after := #[{ on := 20, ground := Ground.data }, { on := 14, ground := Ground.guard }], guard := some (14, true) }) (v := .pointer (some ⟨bc', 0, none⟩)) rfl (by kernel_rfl) (by kernel_rfl) (by kernel_rfl) (fun _ _ _ h => h) (Or.inl ⟨by kernel_rfl, fun W h => Lif.ld_cache (.tmp 60) (by kernel_rfl) (by kernel_rfl) W h.p1⟩) hbk ?_
      try simp only [Act.put, List.setIfInBounds_toArray, List.set_cons_zero, List.set_cons_succ]
      refine wpAnyH_take (i := 22) (oi := { dst := some 62, op := Op.nilCheck (Operand.tmp 61), type := 0, pos := "law07.go:254", after := #[{ on := 21, ground := Ground.data }, { on := 14, ground := Ground.guard }], guard := some (14, true) }) (v := .pointer (some ⟨bc', 0, none⟩)) rfl (by kernel_rfl) (by kernel_rfl) (by kernel_rfl) (fun _ _ _ h => h) (Or.inl ⟨by kernel_rfl, fun W h => (by first | kernel_rfl | go_simp)⟩) hbk ?_
      try simp only [Act.put, List.setIfInBounds_toArray, List.set_cons_zero, List.set_cons_succ]
      refine wpAnyH_take (i := 23) (oi := { dst := some 63, op := Op.fieldAddr 57 (Operand.tmp 62) 0, type := 0, pos := "law07.go:254", after := #[{ on := 22, ground := Ground.data }, { on := 14, ground := Ground.guard }], guard := some (14, true) }) (v := .pointer (some ⟨bc', 0, none⟩)) rfl (by kernel_rfl) (by kernel_rfl) (by kernel_rfl) (fun _ _ _ h => h) (Or.inl ⟨by kernel_rfl, fun W h => (by first | kernel_rfl | go_simp)⟩) hbk ?_
      try simp only [Act.put, List.setIfInBounds_toArray, List.set_cons_zero, List.set_cons_succ]
      refine wpAnyH_take (i := 24) (oi := { dst := some 64, op := Op.load 44 (Operand.tmp 63), type := 44, pos := "law07.go:254", after := #[{ on := 23, ground := Ground.data }, { on := 14, ground := Ground.guard }], guard := some (14, true) }) (v := .agg cs2) rfl (by kernel_rfl) (by kernel_rfl) (by kernel_rfl) (fun _ _ _ h => h) (Or.inl ⟨by kernel_rfl, fun W h => Lif.ld_img (off := 0) (.tmp 63) (by kernel_rfl) (by kernel_rfl) W h.row (by simp [zi2]) (app_fst zi2)⟩) hbk ?_
      try simp only [Act.put, List.setIfInBounds_toArray, List.set_cons_zero, List.set_cons_succ]
      refine wpAnyH_take (i := 25) (oi := { dst := some 65, op := Op.load 44 (Operand.tmp 5), type := 44, pos := "law07.go:254", after := #[{ on := 14, ground := Ground.guard }], guard := some (14, true) }) (v := .agg cs) rfl (by kernel_rfl) (by kernel_rfl) (by kernel_rfl) (fun _ _ _ h => h) (Or.inl ⟨by kernel_rfl, fun W h => Lif.ld_img (off := 0) (.tmp 5) (by kernel_rfl) (by kernel_rfl) W h.box (by rw [zi]; omega) (by rw [Nat.zero_add, show 94 = cs.size from zi.symm]; simp)⟩) hbk ?_
      try simp only [Act.put, List.setIfInBounds_toArray, List.set_cons_zero, List.set_cons_succ]
      refine wpAnyH_take (i := 26) (oi := { dst := some 66, op := Op.binOp BinOp.eql 44 (Operand.tmp 64) (Operand.tmp 65) 44, type := 4, pos := "law07.go:254", after := #[{ on := 24, ground := Ground.data }, { on := 25, ground := Ground.data }, { on := 14, ground := Ground.guard }], guard := some (14, true) }) (v := .bool true) rfl (by kernel_rfl) (by kernel_rfl) (by kernel_rfl) (fun _ _ _ h => h) (Or.inl ⟨by kernel_rfl, fun W h => run_exec_eqv 44 44 (.tmp 64) (.tmp 65) (by kernel_rfl) cs2 cs (by kernel_rfl) (by kernel_rfl) true (by kernel_rfl) QN W⟩) hbk ?_
      try simp only [Act.put, List.setIfInBounds_toArray, List.set_cons_zero, List.set_cons_succ]
      refine wpAnyH_take (i := 27) (oi := { dst := some 67, op := Op.pick (Operand.tmp 54) (Operand.tmp 66) (Operand.const (Value.bool false)), type := 4, pos := "law07.go:254", after := #[{ on := 14, ground := Ground.data }, { on := 26, ground := Ground.data }], guard := none }) (v := .bool true) rfl (by kernel_rfl) (by kernel_rfl) (by kernel_rfl) (fun _ _ _ h => h) (Or.inl ⟨by kernel_rfl, fun W h => (by first | kernel_rfl | go_simp)⟩) hbk ?_
      try simp only [Act.put, List.setIfInBounds_toArray, List.set_cons_zero, List.set_cons_succ]
      refine wpAnyH_take (i := 28) (oi := { dst := some 68, op := Op.move (Operand.tmp 67), type := 4, pos := "law07.go:254", after := #[{ on := 27, ground := Ground.data }, { on := 14, ground := Ground.chain }], guard := none }) (v := .bool true) rfl (by kernel_rfl) (by kernel_rfl) (by kernel_rfl) (fun _ _ _ h => h) (Or.inl ⟨by kernel_rfl, fun W h => (by first | kernel_rfl | go_simp)⟩) hbk ?_
      try simp only [Act.put, List.setIfInBounds_toArray, List.set_cons_zero, List.set_cons_succ]
      refine wpAnyH_take (i := 29) (oi := { dst := some 69, op := Op.move (Operand.tmp 3), type := 25, pos := "law07.go:254", after := #[{ on := 28, ground := Ground.guard }], guard := some (28, true) }) (v := .pointer (some ⟨bl, 0, none⟩)) rfl (by kernel_rfl) (by kernel_rfl) (by kernel_rfl) (fun _ _ _ h => h) (Or.inl ⟨by kernel_rfl, fun W h => (by first | kernel_rfl | go_simp)⟩) hbk ?_
      try simp only [Act.put, List.setIfInBounds_toArray, List.set_cons_zero, List.set_cons_succ]
      refine wpAnyH_take (i := 30) (oi := { dst := some 70, op := Op.nilCheck (Operand.tmp 69), type := 0, pos := "law07.go:254", after := #[{ on := 29, ground := Ground.data }, { on := 28, ground := Ground.guard }], guard := some (28, true) }) (v := .pointer (some ⟨bl, 0, none⟩)) rfl (by kernel_rfl) (by kernel_rfl) (by kernel_rfl) (fun _ _ _ h => h) (Or.inl ⟨by kernel_rfl, fun W h => (by first | kernel_rfl | go_simp)⟩) hbk ?_
      try simp only [Act.put, List.setIfInBounds_toArray, List.set_cons_zero, List.set_cons_succ]
      refine wpAnyH_take (i := 31) (oi := { dst := some 71, op := Op.fieldAddr 50 (Operand.tmp 70) 0, type := 0, pos := "law07.go:254", after := #[{ on := 30, ground := Ground.data }, { on := 28, ground := Ground.guard }], guard := some (28, true) }) (v := .pointer (some ⟨bl, 0, none⟩)) rfl (by kernel_rfl) (by kernel_rfl) (by kernel_rfl) (fun _ _ _ h => h) (Or.inl ⟨by kernel_rfl, fun W h => (by first | kernel_rfl | go_simp)⟩) hbk ?_
      try simp only [Act.put, List.setIfInBounds_toArray, List.set_cons_zero, List.set_cons_succ]
      refine wpAnyH_take (i := 32) (oi := { dst := some 72, op := Op.load 46 (Operand.tmp 71), type := 46, pos := "law07.go:254", after := #[{ on := 31, ground := Ground.data }, { on := 28, ground := Ground.guard }], guard := some (28, true) }) (v := .pointer (some ⟨bf', 0, none⟩)) rfl (by kernel_rfl) (by kernel_rfl) (by kernel_rfl) (fun _ _ _ h => h) (Or.inl ⟨by kernel_rfl, fun W h => Op1.ld_files (.tmp 71) (by kernel_rfl) (by kernel_rfl) W h.p0⟩) hbk ?_
      try simp only [Act.put, List.setIfInBounds_toArray, List.set_cons_zero, List.set_cons_succ]
      refine wpAnyH_take (i := 33) (oi := { dst := some 73, op := Op.nilCheck (Operand.tmp 72), type := 0, pos := "law07.go:254", after := #[{ on := 32, ground := Ground.data }, { on := 28, ground := Ground.guard }], guard := some (28, true) }) (v := .pointer (some ⟨bf', 0, none⟩)) rfl (by kernel_rfl) (by kernel_rfl) (by kernel_rfl) (fun _ _ _ h => h) (Or.inl ⟨by kernel_rfl, fun W h => (by first | kernel_rfl | go_simp)⟩) hbk ?_
      try simp only [Act.put, List.setIfInBounds_toArray, List.set_cons_zero, List.set_cons_succ]
      refine wpAnyH_take (i := 34) (oi := { dst := some 74, op := Op.fieldAddr 53 (Operand.tmp 73) 0, type := 0, pos := "law07.go:254", after := #[{ on := 33, ground := Ground.data }, { on := 28, ground := Ground.guard }], guard := some (28, true) }) (v := .pointer (some ⟨bf', 0, none⟩)) rfl (by kernel_rfl) (by kernel_rfl) (by kernel_rfl) (fun _ _ _ h => h) (Or.inl ⟨by kernel_rfl, fun W h => (by first | kernel_rfl | go_simp)⟩) hbk ?_
      try simp only [Act.put, List.setIfInBounds_toArray, List.set_cons_zero, List.set_cons_succ]
      refine wpAnyH_take (i := 35) (oi := { dst := some 75, op := Op.load 51 (Operand.tmp 74), type := 51, pos := "law07.go:254", after := #[{ on := 34, ground := Ground.data }, { on := 28, ground := Ground.guard }], guard := some (28, true) }) (v := .pointer (some ⟨bc', 0, none⟩)) rfl (by kernel_rfl) (by kernel_rfl) (by kernel_rfl) (fun _ _ _ h => h) (Or.inl ⟨by kernel_rfl, fun W h => Lif.ld_cache (.tmp 74) (by kernel_rfl) (by kernel_rfl) W h.p1⟩) hbk ?_
      try simp only [Act.put, List.setIfInBounds_toArray, List.set_cons_zero, List.set_cons_succ]
      have CL2 := hide (unhide H7).fo.cln
      rw [(unhide TN).1, (unhide TN).2.1, Img.same_iff.2 (Img.Agree.refl T.now)] at CL2
      refine wpAnyH_ready (rs := [36]) (by kernel_rfl) (by simp) ?_
      refine AllReadyH.cons (o := { dst := some 76, op := Op.call { callee := Callee.value (Operand.func 30), args := #[Operand.tmp 75], argTypes := #[51] }, type := 4, pos := "law07.go:254", after := #[{ on := 35, ground := Ground.data }, { on := 28, ground := Ground.chain }, { on := 28, ground := Ground.guard }], guard := some (28, true) }) rfl (fun K hK => ?_) AllReadyH.nil
      rw [if_pos (by kernel_rfl)]
      go_simp
      refine (unhide CL2).mono ?_
      rintro e w8 ⟨rfl, b8⟩
      have H8 := hide ((unhide H7).call b8)
      have hb8 := hbk.below b8
      clear b8 CL2 H7 hbk
      go_wp2_with fail
      refine hK.out _ _ (hb8) (fun hS8 => ?_)
      clear hK K
      try simp only [Act.put, List.setIfInBounds_toArray, List.set_cons_zero, List.set_cons_succ]
      refine wpAnyH_take (i := 37) (oi := { dst := some 77, op := Op.pick (Operand.tmp 68) (Operand.tmp 76) (Operand.const (Value.bool false)), type := 4, pos := "law07.go:254", after := #[{ on := 28, ground := Ground.data }, { on := 36, ground := Ground.data }], guard := none }) (v := .bool true) rfl (by kernel_rfl) (by kernel_rfl) (by kernel_rfl) (fun _ _ _ h => h) (Or.inl ⟨by kernel_rfl, fun W h => (by first | kernel_rfl | go_simp)⟩) hS8 ?_
      try simp only [Act.put, List.setIfInBounds_toArray, List.set_cons_zero, List.set_cons_succ]
      refine wpAnyH_take (i := 38) (oi := { dst := some 78, op := Op.move (Operand.tmp 77), type := 4, pos := "law07.go:254", after := #[{ on := 37, ground := Ground.data }, { on := 36, ground := Ground.chain }], guard := none }) (v := .bool true) rfl (by kernel_rfl) (by kernel_rfl) (by kernel_rfl) (fun _ _ _ h => h) (Or.inl ⟨by kernel_rfl, fun W h => (by first | kernel_rfl | go_simp)⟩) hS8 ?_
      try simp only [Act.put, List.setIfInBounds_toArray, List.set_cons_zero, List.set_cons_succ]
      refine wpAnyH_take (i := 39) (oi := { dst := some 79, op := Op.move (Operand.tmp 3), type := 25, pos := "law07.go:254", after := #[{ on := 38, ground := Ground.guard }], guard := some (38, true) }) (v := .pointer (some ⟨bl, 0, none⟩)) rfl (by kernel_rfl) (by kernel_rfl) (by kernel_rfl) (fun _ _ _ h => h) (Or.inl ⟨by kernel_rfl, fun W h => (by first | kernel_rfl | go_simp)⟩) hS8 ?_
      try simp only [Act.put, List.setIfInBounds_toArray, List.set_cons_zero, List.set_cons_succ]
      refine wpAnyH_take (i := 41) (oi := { dst := some 81, op := Op.build 48 #[], type := 48, pos := "law07.go:254", after := #[{ on := 38, ground := Ground.guard }], guard := some (38, true) }) (v := .agg (lostA 0 0 0)) rfl (by kernel_rfl) (by kernel_rfl) (by kernel_rfl) (fun _ _ _ h => h) (Or.inl ⟨by kernel_rfl, fun W h => (by first | kernel_rfl | go_simp)⟩) hS8 ?_
      try simp only [Act.put, List.setIfInBounds_toArray, List.set_cons_zero, List.set_cons_succ]
      have LL := hide (lLost_any (unhide H8))
      rw [(unhide TN).2.2.1, (unhide TN).2.2.2.1, (unhide TN).2.2.2.2.1] at LL
      have QL := fun W => eqLost 0 0 0 0 0 0 W
      refine wpAnyH_ready (rs := [40]) (by kernel_rfl) (by simp) ?_
      refine AllReadyH.cons (o := { dst := some 80, op := Op.call { callee := Callee.value (Operand.func 20), args := #[Operand.tmp 79], argTypes := #[25] }, type := 48, pos := "law07.go:254", after := #[{ on := 39, ground := Ground.data }, { on := 38, ground := Ground.chain }, { on := 38, ground := Ground.guard }], guard := some (38, true) }) rfl (fun K hK => ?_) AllReadyH.nil
      rw [if_pos (by kernel_rfl)]
      go_simp
      refine (unhide LL).mono ?_
      rintro e w9 ⟨rfl, b9⟩
      have H9 := hide ((unhide H8).call b9)
      have hb9 := hb8.below b9
      clear b9 LL H8 hb8
      go_wp2_with fail
      refine hK.out _ _ (hb9) (fun hS9 => ?_)
      clear hK K
      try simp only [Act.put, List.setIfInBounds_toArray, List.set_cons_zero, List.set_cons_succ]
      refine wpAnyH_take (i := 42) (oi := { dst := some 82, op := Op.binOp BinOp.eql 48 (Operand.tmp 80) (Operand.tmp 81) 48, type := 4, pos := "law07.go:254", after := #[{ on := 40, ground := Ground.data }, { on := 41, ground := Ground.data }, { on := 38, ground := Ground.guard }], guard := some (38, true) }) (v := .bool true) rfl (by kernel_rfl) (by kernel_rfl) (by kernel_rfl) (fun _ _ _ h => h) (Or.inl ⟨by kernel_rfl, fun W h => run_exec_eqv 48 48 (.tmp 80) (.tmp 81) (by kernel_rfl) (lostA 0 0 0) (lostA 0 0 0) (by kernel_rfl) (by kernel_rfl) true (by kernel_rfl) QL W⟩) hS9 ?_
      try simp only [Act.put, List.setIfInBounds_toArray, List.set_cons_zero, List.set_cons_succ]
      refine wpAnyH_take (i := 43) (oi := { dst := some 83, op := Op.pick (Operand.tmp 78) (Operand.tmp 82) (Operand.const (Value.bool false)), type := 4, pos := "law07.go:254", after := #[{ on := 38, ground := Ground.data }, { on := 42, ground := Ground.data }], guard := none }) (v := .bool true) rfl (by kernel_rfl) (by kernel_rfl) (by kernel_rfl) (fun _ _ _ h => h) (Or.inl ⟨by kernel_rfl, fun W h => (by first | kernel_rfl | go_simp)⟩) hS9 ?_
      try simp only [Act.put, List.setIfInBounds_toArray, List.set_cons_zero, List.set_cons_succ]
      refine wpAnyH_take (i := 44) (oi := { dst := some 84, op := Op.move (Operand.tmp 83), type := 4, pos := "law07.go:254", after := #[{ on := 43, ground := Ground.data }, { on := 40, ground := Ground.chain }], guard := none }) (v := .bool true) rfl (by kernel_rfl) (by kernel_rfl) (by kernel_rfl) (fun _ _ _ h => h) (Or.inl ⟨by kernel_rfl, fun W h => (by first | kernel_rfl | go_simp)⟩) hS9 ?_
      try simp only [Act.put, List.setIfInBounds_toArray, List.set_cons_zero, List.set_cons_succ]
      refine wpAnyH_take (i := 45) (oi := { dst := some 85, op := Op.move (Operand.tmp 3), type := 25, pos := "law07.go:254", after := #[{ on := 44, ground := Ground.guard }], guard := some (44, true) }) (v := .pointer (some ⟨bl, 0, none⟩)) rfl (by kernel_rfl) (by kernel_rfl) (by kernel_rfl) (fun _ _ _ h => h) (Or.inl ⟨by kernel_rfl, fun W h => (by first | kernel_rfl | go_simp)⟩) hS9 ?_
      try simp only [Act.put, List.setIfInBounds_toArray, List.set_cons_zero, List.set_cons_succ]
      refine wpAnyH_take (i := 47) (oi := { dst := some 87, op := Op.move (Operand.tmp 6), type := 3, pos := "law07.go:254", after := #[{ on := 44, ground := Ground.guard }], guard := some (44, true) }) (v := .int .i64 T.cr) rfl (by kernel_rfl) (by kernel_rfl) (by kernel_rfl) (fun _ _ _ h => h) (Or.inl ⟨by kernel_rfl, fun W h => (by first | kernel_rfl | go_simp)⟩) hS9 ?_
      try simp only [Act.put, List.setIfInBounds_toArray, List.set_cons_zero, List.set_cons_succ]
      refine wpAnyH_take (i := 48) (oi := { dst := some 88, op := Op.binOp BinOp.add 3 (Operand.tmp 87) (Operand.const (Value.int IntKind.i64 1)) 3, type := 3, pos := "law07.go:254", after := #[{ on := 47, ground := Ground.data }, { on := 44, ground := Ground.guard }], guard := some (44, true) }) (v := .int .i64 (T.cr + 1)) rfl (by kernel_rfl) (by kernel_rfl) (by kernel_rfl) (fun _ _ _ h => h) (Or.inl ⟨by kernel_rfl, fun W h => Op1.add1 (.tmp 87) (by kernel_rfl) (by kernel_rfl) (by kernel_rfl) hcr W⟩) hS9 ?_
      try simp only [Act.put, List.setIfInBounds_toArray, List.set_cons_zero, List.set_cons_succ]
      have LC := hide (lCrashes_any (unhide H9))
      rw [(unhide TN).2.2.2.2.2] at LC
      refine wpAnyH_ready (rs := [46]) (by kernel_rfl) (by simp) ?_
      refine AllReadyH.cons (o := { dst := some 86, op := Op.call { callee := Callee.value (Operand.func 19), args := #[Operand.tmp 85], argTypes := #[25] }, type := 3, pos := "law07.go:254", after := #[{ on := 45, ground := Ground.data }, { on := 44, ground := Ground.chain }, { on := 44, ground := Ground.guard }], guard := some (44, true) }) rfl (fun K hK => ?_) AllReadyH.nil
      rw [if_pos (by kernel_rfl)]
      go_simp
      refine (unhide LC).mono ?_
      rintro e wq ⟨rfl, e9⟩
      rw [e9]
      clear e9 wq
      go_wp2_with fail
      refine hK.out _ _ (hb9) (fun hS10 => ?_)
      clear hK K
      try simp only [Act.put, List.setIfInBounds_toArray, List.set_cons_zero, List.set_cons_succ]
      refine wpAnyH_take (i := 49) (oi := { dst := some 89, op := Op.binOp BinOp.eql 3 (Operand.tmp 86) (Operand.tmp 88) 3, type := 4, pos := "law07.go:254", after := #[{ on := 46, ground := Ground.data }, { on := 48, ground := Ground.data }, { on := 44, ground := Ground.guard }], guard := some (44, true) }) (v := .bool true) rfl (by kernel_rfl) (by kernel_rfl) (by kernel_rfl) (fun _ _ _ h => h) (Or.inl ⟨by kernel_rfl, fun W h => Lif.eqi (v := T.cr + 1) (.tmp 86) (.tmp 88) (by kernel_rfl) (by kernel_rfl) (by kernel_rfl) W⟩) hS10 ?_
      try simp only [Act.put, List.setIfInBounds_toArray, List.set_cons_zero, List.set_cons_succ]
      refine wpAnyH_take (i := 50) (oi := { dst := some 90, op := Op.pick (Operand.tmp 84) (Operand.tmp 89) (Operand.const (Value.bool false)), type := 4, pos := "law07.go:254", after := #[{ on := 44, ground := Ground.data }, { on := 49, ground := Ground.data }], guard := none }) (v := .bool true) rfl (by kernel_rfl) (by kernel_rfl) (by kernel_rfl) (fun _ _ _ h => h) (Or.inl ⟨by kernel_rfl, fun W h => (by first | kernel_rfl | go_simp)⟩) hS10 ?_
      try simp only [Act.put, List.setIfInBounds_toArray, List.set_cons_zero, List.set_cons_succ]
      refine wpAnyH_take (i := 51) (oi := { dst := some 2, op := Op.assign (Operand.tmp 90), type := 4, pos := "law07.go:254", after := #[{ on := 50, ground := Ground.data }, { on := 46, ground := Ground.chain }, { on := 0, ground := Ground.phase }, { on := 1, ground := Ground.phase }, { on := 2, ground := Ground.phase }, { on := 3, ground := Ground.phase }, { on := 4, ground := Ground.phase }, { on := 5, ground := Ground.phase }, { on := 6, ground := Ground.phase }, { on := 7, ground := Ground.phase }, { on := 8, ground := Ground.phase }, { on := 9, ground := Ground.phase }, { on := 10, ground := Ground.phase }, { on := 11, ground := Ground.phase }, { on := 12, ground := Ground.phase }, { on := 13, ground := Ground.phase }, { on := 14, ground := Ground.phase }, { on := 15, ground := Ground.phase }, { on := 16, ground := Ground.phase }, { on := 17, ground := Ground.phase }, { on := 18, ground := Ground.phase }, { on := 19, ground := Ground.phase }, { on := 20, ground := Ground.phase }, { on := 21, ground := Ground.phase }, { on := 22, ground := Ground.phase }, { on := 23, ground := Ground.phase }, { on := 24, ground := Ground.phase }, { on := 25, ground := Ground.phase }, { on := 26, ground := Ground.phase }, { on := 27, ground := Ground.phase }, { on := 28, ground := Ground.phase }, { on := 29, ground := Ground.phase }, { on := 30, ground := Ground.phase }, { on := 31, ground := Ground.phase }, { on := 32, ground := Ground.phase }, { on := 33, ground := Ground.phase }, { on := 34, ground := Ground.phase }, { on := 35, ground := Ground.phase }, { on := 36, ground := Ground.phase }, { on := 37, ground := Ground.phase }, { on := 38, ground := Ground.phase }, { on := 39, ground := Ground.phase }, { on := 40, ground := Ground.phase }, { on := 41, ground := Ground.phase }, { on := 42, ground := Ground.phase }, { on := 43, ground := Ground.phase }, { on := 44, ground := Ground.phase }, { on := 45, ground := Ground.phase }, { on := 46, ground := Ground.phase }, { on := 47, ground := Ground.phase }, { on := 48, ground := Ground.phase }, { on := 49, ground := Ground.phase }, { on := 50, ground := Ground.phase }], guard := none }) (v := .bool true) rfl (by kernel_rfl) (by kernel_rfl) (by kernel_rfl) (fun _ _ _ h => h) (Or.inl ⟨by kernel_rfl, fun W h => (by first | kernel_rfl | go_simp)⟩) hS10 ?_
      try simp only [Act.put, List.setIfInBounds_toArray, List.set_cons_zero, List.set_cons_succ]
      refine wpAnyH_done (by kernel_rfl) ?_ _
      have BZ := hide (unhide H9).bel
      clear hS10 hS9 hS8 hb9
      go_wp2_with fail
      go_ret
      exact ⟨rfl, unhide BZ⟩
    · rw [if_pos (by kernel_rfl)]
      go_simp
      refine hK.out _ _ hlkA (fun hS2 => ?_)
      clear hK K
      try simp only [Act.put, List.setIfInBounds_toArray, List.set_cons_zero, List.set_cons_succ]
      refine wpAnyH_ready (rs := [11]) (by kernel_rfl) (by simp) ?_
      refine AllReadyH.cons (o := { dst := some 39, op := Op.call { callee := Callee.value (Operand.func 19), args := #[Operand.tmp 38], argTypes := #[25] }, type := 3, pos := "law07.go:253", after := #[{ on := 10, ground := Ground.data }], guard := none }) rfl (fun K hK => ?_) AllReadyH.nil
      rw [if_pos (by kernel_rfl)]
      go_simp
      refine (lCrashes_any (unhide HA)).mono ?_
      rintro e wq ⟨rfl, e9⟩
      rw [e9]
      clear e9 wq
      go_wp2_with fail
      refine hK.out _ _ hlkA (fun hS3 => ?_)
      clear hK K
      try simp only [Act.put, List.setIfInBounds_toArray, List.set_cons_zero, List.set_cons_succ]
      refine wpAnyH_ready (rs := [13]) (by kernel_rfl) (by simp) ?_
      refine AllReadyH.cons (o := { dst := none, op := Op.store 44 (Operand.tmp 5) (Operand.tmp 37), type := 0, pos := "law07.go:253", after := #[{ on := 12, ground := Ground.data }, { on := 9, ground := Ground.data }, { on := 11, ground := Ground.chain }, { on := 0, ground := Ground.phase }, { on := 1, ground := Ground.phase }, { on := 2, ground := Ground.phase }, { on := 3, ground := Ground.phase }, { on := 4, ground := Ground.phase }, { on := 5, ground := Ground.phase }, { on := 6, ground := Ground.phase }, { on := 7, ground := Ground.phase }, { on := 8, ground := Ground.phase }, { on := 9, ground := Ground.phase }, { on := 10, ground := Ground.textOnly Departure.lateStores }, { on := 11, ground := Ground.textOnly Departure.lateStoresUnsure }, { on := 12, ground := Ground.phase }], guard := none }) rfl (fun K hK => ?_) AllReadyH.nil
      rw [if_pos (by kernel_rfl)]
      refine Op1.st_row0 44 (.tmp 5) (.tmp 37) (by kernel_rfl) (by kernel_rfl) (g := w4.heap.size) (cells := cs) (by kernel_rfl) (by kernel_rfl) (t := 44) (old := zeroCells) (unhide s1) (img_info zi) (zero_size hi) hi.all ?_
      refine hK.out _ _ hlkB (fun hS4 => ?_)
      clear hK K
      try simp only [Act.put, List.setIfInBounds_toArray, List.set_cons_zero, List.set_cons_succ]
      refine wpAnyH_take (i := 14) (oi := { dst := some 6, op := Op.assign (Operand.tmp 39), type := 3, pos := "law07.go:253", after := #[{ on := 11, ground := Ground.data }, { on := 13, ground := Ground.chain }, { on := 0, ground := Ground.phase }, { on := 1, ground := Ground.phase }, { on := 2, ground := Ground.phase }, { on := 3, ground := Ground.phase }, { on := 4, ground := Ground.phase }, { on := 5, ground := Ground.phase }, { on := 6, ground := Ground.phase }, { on := 7, ground := Ground.phase }, { on := 8, ground := Ground.phase }, { on := 9, ground := Ground.phase }, { on := 10, ground := Ground.phase }, { on := 11, ground := Ground.phase }, { on := 12, ground := Ground.phase }, { on := 13, ground := Ground.phase }], guard := none }) (v := .int .i64 T.cr) rfl (by kernel_rfl) (by kernel_rfl) (by kernel_rfl) (fun _ _ _ h => h) (Or.inl ⟨by kernel_rfl, fun W h => (by first | kernel_rfl | go_simp)⟩) hS4 ?_
      try simp only [Act.put, List.setIfInBounds_toArray, List.set_cons_zero, List.set_cons_succ]
      refine wpAnyH_done (by kernel_rfl) ?_ _
      clear hS hS2 hS3 hS4 hlk hlkA hlkB Hd HA BA s1
      have HB : Hid (Lo w bl bf1 bc1 T ((w4.alloc (.cells zeroCells 44)).drew.setRow w4.heap.size cs)) := HB
      have RB : Hid (((w4.alloc (.cells zeroCells 44)).drew.setRow w4.heap.size cs).heap[w4.heap.size]? = some (.cells cs 44)) := RB
      generalize (w4.alloc (.cells zeroCells 44)).drew.setRow w4.heap.size cs = X5 at HB RB ⊢
      generalize w4.heap.size = g5 at RB NG ⊢
      go_upto_region 13 with fail
      have H5 := hide ((unhide HB).call (Below.refl _ X5).drew)
      have R5 : Hid (X5.drew.heap[g5]? = some (.cells cs 44)) := RB
      have q0 := (unhide H5).ptr
      have q1 := (unhide H5).ptr2
      clear HB RB BB
      refine wp_region_held_drew (S := fun _ => True) (by kernel_rfl) (trivial) (fun hS => ?_)
      refine wpAnyH_take (i := 0) (oi := { dst := some 40, op := Op.move (Operand.tmp 3), type := 25, pos := "law07.go:254", after := #[], guard := none }) (v := .pointer (some ⟨bl, 0, none⟩)) rfl (by kernel_rfl) (by kernel_rfl) (by kernel_rfl) (fun _ _ _ h => h) (Or.inl ⟨by kernel_rfl, fun W h => (by first | kernel_rfl | go_simp)⟩) hS ?_
      try simp only [Act.put, List.setIfInBounds_toArray, List.set_cons_zero, List.set_cons_succ]
      refine wpAnyH_take (i := 1) (oi := { dst := some 41, op := Op.nilCheck (Operand.tmp 40), type := 0, pos := "law07.go:254", after := #[{ on := 0, ground := Ground.data }], guard := none }) (v := .pointer (some ⟨bl, 0, none⟩)) rfl (by kernel_rfl) (by kernel_rfl) (by kernel_rfl) (fun _ _ _ h => h) (Or.inl ⟨by kernel_rfl, fun W h => (by first | kernel_rfl | go_simp)⟩) hS ?_
      try simp only [Act.put, List.setIfInBounds_toArray, List.set_cons_zero, List.set_cons_succ]
      refine wpAnyH_take (i := 2) (oi := { dst := some 42, op := Op.fieldAddr 50 (Operand.tmp 41) 0, type := 0, pos := "law07.go:254", after := #[{ on := 1, ground := Ground.data }], guard := none }) (v := .pointer (some ⟨bl, 0, none⟩)) rfl (by kernel_rfl) (by kernel_rfl) (by kernel_rfl) (fun _ _ _ h => h) (Or.inl ⟨by kernel_rfl, fun W h => (by first | kernel_rfl | go_simp)⟩) hS ?_
      try simp only [Act.put, List.setIfInBounds_toArray, List.set_cons_zero, List.set_cons_succ]
      refine wpAnyH_ready (rs := [3]) (by kernel_rfl) (by simp) ?_
      refine AllReadyH.cons (o := { dst := some 43, op := Op.load 46 (Operand.tmp 42), type := 46, pos := "law07.go:254", after := #[{ on := 2, ground := Ground.data }], guard := none }) rfl (fun K hK => ?_) AllReadyH.nil
      rw [if_pos (by kernel_rfl)]
      refine wp_value (v := .pointer (some ⟨bf1, 0, none⟩)) (Op1.ld_files (.tmp 42) (by kernel_rfl) (by kernel_rfl) _ q0) ?_
      refine hK.out _ _ hS (fun _ => ?_)
      clear hK K
      try simp only [Act.put, List.setIfInBounds_toArray, List.set_cons_zero, List.set_cons_succ]
      refine wpAnyH_take (i := 4) (oi := { dst := some 44, op := Op.nilCheck (Operand.tmp 43), type := 0, pos := "law07.go:254", after := #[{ on := 3, ground := Ground.data }], guard := none }) (v := .pointer (some ⟨bf1, 0, none⟩)) rfl (by kernel_rfl) (by kernel_rfl) (by kernel_rfl) (fun _ _ _ h => h) (Or.inl ⟨by kernel_rfl, fun W h => (by first | kernel_rfl | go_simp)⟩) hS ?_
      try simp only [Act.put, List.setIfInBounds_toArray, List.set_cons_zero, List.set_cons_succ]
      refine wpAnyH_take (i := 5) (oi := { dst := some 45, op := Op.fieldAddr 53 (Operand.tmp 44) 0, type := 0, pos := "law07.go:254", after := #[{ on := 4, ground := Ground.data }], guard := none }) (v := .pointer (some ⟨bf1, 0, none⟩)) rfl (by kernel_rfl) (by kernel_rfl) (by kernel_rfl) (fun _ _ _ h => h) (Or.inl ⟨by kernel_rfl, fun W h => (by first | kernel_rfl | go_simp)⟩) hS ?_
      try simp only [Act.put, List.setIfInBounds_toArray, List.set_cons_zero, List.set_cons_succ]
      refine wpAnyH_ready (rs := [6]) (by kernel_rfl) (by simp) ?_
      refine AllReadyH.cons (o := { dst := some 46, op := Op.load 51 (Operand.tmp 45), type := 51, pos := "law07.go:254", after := #[{ on := 5, ground := Ground.data }], guard := none }) rfl (fun K hK => ?_) AllReadyH.nil
      rw [if_pos (by kernel_rfl)]
      refine wp_value (v := .pointer (some ⟨bc1, 0, none⟩)) (Lif.ld_cache (.tmp 45) (by kernel_rfl) (by kernel_rfl) _ q1) ?_
      refine hK.out _ _ hS (fun _ => ?_)
      clear hK K
      try simp only [Act.put, List.setIfInBounds_toArray, List.set_cons_zero, List.set_cons_succ]
      have CL := hide (unhide H5).fo.cln
      rw [ED, Img.same_iff.2 (Img.Agree.refl T.now)] at CL
      refine wpAnyH_ready (rs := [7]) (by kernel_rfl) (by simp) ?_
      refine AllReadyH.cons (o := { dst := some 47, op := Op.call { callee := Callee.value (Operand.func 30), args := #[Operand.tmp 46], argTypes := #[51] }, type := 4, pos := "law07.go:254", after := #[{ on := 6, ground := Ground.data }], guard := none }) rfl (fun K hK => ?_) AllReadyH.nil
      rw [if_pos (by kernel_rfl)]
      go_simp
      refine (unhide CL).mono ?_
      rintro e w6 ⟨rfl, b6⟩
      have H6 := hide ((unhide H5).call b6)
      have R6 := hide (show w6.heap[g5]? = some (.cells cs 44) by rw [b6.block _ (Array.getElem?_eq_some_iff.1 (unhide R5)).1]; exact unhide R5)
      clear b6 CL H5 R5 q0 q1
      go_wp2_with fail
      refine hK.out _ _ (trivial) (fun hS6 => ?_)
      clear hK K
      try simp only [Act.put, List.setIfInBounds_toArray, List.set_cons_zero, List.set_cons_succ]
      refine wpAnyH_take (i := 8) (oi := { dst := some 48, op := Op.move (Operand.tmp 47), type := 4, pos := "law07.go:254", after := #[{ on := 7, ground := Ground.data }, { on := 7, ground := Ground.chain }], guard := none }) (v := .bool true) rfl (by kernel_rfl) (by kernel_rfl) (by kernel_rfl) (fun _ _ _ h => h) (Or.inl ⟨by kernel_rfl, fun W h => (by first | kernel_rfl | go_simp)⟩) hS6 ?_
      try simp only [Act.put, List.setIfInBounds_toArray, List.set_cons_zero, List.set_cons_succ]
      refine wpAnyH_take (i := 9) (oi := { dst := some 49, op := Op.move (Operand.tmp 3), type := 25, pos := "law07.go:254", after := #[{ on := 8, ground := Ground.guard }], guard := some (8, true) }) (v := .pointer (some ⟨bl, 0, none⟩)) rfl (by kernel_rfl) (by kernel_rfl) (by kernel_rfl) (fun _ _ _ h => h) (Or.inl ⟨by kernel_rfl, fun W h => (by first | kernel_rfl | go_simp)⟩) hS6 ?_
      try simp only [Act.put, List.setIfInBounds_toArray, List.set_cons_zero, List.set_cons_succ]
      refine wpAnyH_take (i := 10) (oi := { dst := some 50, op := Op.build 31 #[(0, Operand.const (Value.int IntKind.i64 9))], type := 31, pos := "law07.go:254", after := #[{ on := 8, ground := Ground.guard }], guard := some (8, true) }) (v := .agg (stpA Lif.y5)) rfl (by kernel_rfl) (by kernel_rfl) (by kernel_rfl) (fun _ _ _ h => h) (Or.inl ⟨by kernel_rfl, fun W h => (by first | kernel_rfl | go_simp)⟩) hS6 ?_
      try simp only [Act.put, List.setIfInBounds_toArray, List.set_cons_zero, List.set_cons_succ]
      have D6 := hide (lStep_any (unhide H6) (unhide K9) (by omega) Lif.y5 (Sft.small _ (Nat.zero_le _)) (Sft.small _ (Nat.zero_le _)) (Sft.small _ (Nat.zero_le _)))
      rw [(T.step_nine (x := Lif.y5) rfl).1, (T.step_nine (x := Lif.y5) rfl).2] at D6
      refine wpAnyH_ready (rs := [11]) (by kernel_rfl) (by simp) ?_
      refine AllReadyH.cons (o := { dst := some 51, op := Op.call { callee := Callee.value (Operand.func 16), args := #[Operand.tmp 49, Operand.tmp 50], argTypes := #[25, 31] }, type := 3, pos := "law07.go:254", after := #[{ on := 9, ground := Ground.data }, { on := 10, ground := Ground.data }, { on := 8, ground := Ground.chain }, { on := 8, ground := Ground.guard }], guard := some (8, true) }) rfl (fun K hK => ?_) AllReadyH.nil
      rw [if_pos (by kernel_rfl)]
      go_simp
      refine (unhide D6).mono ?_
      rintro e w7 ⟨rfl, bf', bc', h7, l7⟩
      have H7 := hide h7
      have R7 := hide (l7.row (unhide R6) (unhide NG)).1
      clear h7 l7 D6 H6 R6
      go_wp2_with fail
      refine hK.out _ _ (trivial) (fun hS7 => ?_)
      clear hK K
      try simp only [Act.put, List.setIfInBounds_toArray, List.set_cons_zero, List.set_cons_succ]
      refine wpAnyH_take (i := 12) (oi := { dst := some 52, op := Op.binOp BinOp.eql 3 (Operand.tmp 51) (Operand.const (Value.int IntKind.i64 0)) 3, type := 4, pos := "law07.go:254", after := #[{ on := 11, ground := Ground.data }, { on := 8, ground := Ground.guard }], guard := some (8, true) }) (v := .bool true) rfl (by kernel_rfl) (by kernel_rfl) (by kernel_rfl) (fun _ _ _ h => h) (Or.inl ⟨by kernel_rfl, fun W h => (by first | kernel_rfl | go_simp)⟩) hS7 ?_
      try simp only [Act.put, List.setIfInBounds_toArray, List.set_cons_zero, List.set_cons_succ]
      refine wpAnyH_take (i := 13) (oi := { dst := some 53, op := Op.pick (Operand.tmp 48) (Operand.tmp 52) (Operand.const (Value.bool false)), type := 4, pos := "law07.go:254", after := #[{ on := 8, ground := Ground.data }, { on := 12, ground := Ground.data }], guard := none }) (v := .bool true) rfl (by kernel_rfl) (by kernel_rfl) (by kernel_rfl) (fun _ _ _ h => h) (Or.inl ⟨by kernel_rfl, fun W h => (by first | kernel_rfl | go_simp)⟩) hS7 ?_
      try simp only [Act.put, List.setIfInBounds_toArray, List.set_cons_zero, List.set_cons_succ]
      refine wpAnyH_take (i := 14) (oi := { dst := some 54, op := Op.move (Operand.tmp 53), type := 4, pos := "law07.go:254", after := #[{ on := 13, ground := Ground.data }, { on := 11, ground := Ground.chain }], guard := none }) (v := .bool true) rfl (by kernel_rfl) (by kernel_rfl) (by kernel_rfl) (fun _ _ _ h => h) (Or.inl ⟨by kernel_rfl, fun W h => (by first | kernel_rfl | go_simp)⟩) hS7 ?_
      try simp only [Act.put, List.setIfInBounds_toArray, List.set_cons_zero, List.set_cons_succ]
      obtain ⟨cs2, ds2, hbk, hi2, hj2⟩ := Lif.Bk.of (unhide H7) (unhide R7)
      rw [(unhide TN).1] at hi2
      rw [(unhide TN).2.1] at hj2
      have zi2 := hi2.size
      have zj2 := hj2.size
      have QN := fun W => eqlImg hi2 hi W
      rw [Img.same_iff.2 (Img.Agree.refl T.now)] at QN
      clear hS hS6 hS7 R7
      refine wpAnyH_mono (S' := Lif.Bk bl bf' bc' g5 cs2 ds2 cs) (fun _ _ => trivial) _ _ _ _ ?_
      refine wpAnyH_take (i := 15) (oi := { dst := some 55, op := Op.move (Operand.tmp 3), type := 25, pos := "law07.go:254", after := #[{ on := 14, ground := Ground.guard }], guard := some (14, true) }) (v := .pointer (some ⟨bl, 0, none⟩)) rfl (by kernel_rfl) (by kernel_rfl) (by kernel_rfl) (fun _ _ _ h => h) (Or.inl ⟨by kernel_rfl, fun W h => (by first | kernel_rfl | go_simp)⟩) hbk ?_
      try simp only [Act.put, List.setIfInBounds_toArray, List.set_cons_zero, List.set_cons_succ]
      refine wpAnyH_take (i := 16) (oi := { dst := some 56, op := Op.nilCheck (Operand.tmp 55), type := 0, pos := "law07.go:254", after := #[{ on := 15, ground := Ground.data }, { on := 14, ground := Ground.guard }], guard := some (14, true) }) (v := .pointer (some ⟨bl, 0, none⟩)) rfl (by kernel_rfl) (by kernel_rfl) (by kernel_rfl) (fun _ _ _ h => h) (Or.inl ⟨by kernel_rfl, fun W h => (by first | kernel_rfl | go_simp)⟩) hbk ?_
      try simp only [Act.put, List.setIfInBounds_toArray, List.set_cons_zero, List.set_cons_succ]
      refine wpAnyH_take (i := 17) (oi := { dst := some 57, op := Op.fieldAddr 50 (Operand.tmp 56) 0, type := 0, pos := "law07.go:254", after := #[{ on := 16, ground := Ground.data }, { on := 14, ground := Ground.guard }], guard := some (14, true) }) (v := .pointer (some ⟨bl, 0, none⟩)) rfl (by kernel_rfl) (by kernel_rfl) (by kernel_rfl) (fun _ _ _ h => h) (Or.inl ⟨by kernel_rfl, fun W h => (by first | kernel_rfl | go_simp)⟩) hbk ?_
      try simp only [Act.put, List.setIfInBounds_toArray, List.set_cons_zero, List.set_cons_succ]
      refine wpAnyH_take (i := 18) (oi := { dst := some 58, op := Op.load 46 (Operand.tmp 57), type := 46, pos := "law07.go:254", after := #[{ on := 17, ground := Ground.data }, { on := 14, ground := Ground.guard }], guard := some (14, true) }) (v := .pointer (some ⟨bf', 0, none⟩)) rfl (by kernel_rfl) (by kernel_rfl) (by kernel_rfl) (fun _ _ _ h => h) (Or.inl ⟨by kernel_rfl, fun W h => Op1.ld_files (.tmp 57) (by kernel_rfl) (by kernel_rfl) W h.p0⟩) hbk ?_
      try simp only [Act.put, List.setIfInBounds_toArray, List.set_cons_zero, List.set_cons_succ]
      refine wpAnyH_take (i := 19) (oi := { dst := some 59, op := Op.nilCheck (Operand.tmp 58), type := 0, pos := "law07.go:254", after := #[{ on := 18, ground := Ground.data }, { on := 14, ground := Ground.guard }], guard := some (14, true) }) (v := .pointer (some ⟨bf', 0, none⟩)) rfl (by kernel_rfl) (by kernel_rfl) (by kernel_rfl) (fun _ _ _ h => h) (Or.inl ⟨by kernel_rfl, fun W h => (by first | kernel_rfl | go_simp)⟩) hbk ?_
      try simp only [Act.put, List.setIfInBounds_toArray, List.set_cons_zero, List.set_cons_succ]
      refine wpAnyH_take (i := 20) (oi := { dst := some 60, op := Op.fieldAddr 53 (Operand.tmp 59) 0, type := 0, pos := "law07.go:254", after := #[{ on := 19, ground := Ground.data }, { on := 14, ground := Ground.guard }], guard := some (14, true) }) (v := .pointer (some ⟨bf', 0, none⟩)) rfl (by kernel_rfl) (by kernel_rfl) (by kernel_rfl) (fun _ _ _ h => h) (Or.inl ⟨by kernel_rfl, fun W h => (by first | kernel_rfl | go_simp)⟩) hbk ?_
      try simp only [Act.put, List.setIfInBounds_toArray, List.set_cons_zero, List.set_cons_succ]
      refine wpAnyH_take (i := 21) (oi := { dst := some 61, op := Op.load 51 (Operand.tmp 60), type := 51, pos := "law07.go:254", after := #[{ on := 20, ground := Ground.data }, { on := 14, ground := Ground.guard }], guard := some (14, true) }) (v := .pointer (some ⟨bc', 0, none⟩)) rfl (by kernel_rfl) (by kernel_rfl) (by kernel_rfl) (fun _ _ _ h => h) (Or.inl ⟨by kernel_rfl, fun W h => Lif.ld_cache (.tmp 60) (by kernel_rfl) (by kernel_rfl) W h.p1⟩) hbk ?_
      try simp only [Act.put, List.setIfInBounds_toArray, List.set_cons_zero, List.set_cons_succ]
      refine wpAnyH_take (i := 22) (oi := { dst := some 62, op := Op.nilCheck (Operand.tmp 61), type := 0, pos := "law07.go:254", after := #[{ on := 21, ground := Ground.data }, { on := 14, ground := Ground.guard }], guard := some (14, true) }) (v := .pointer (some ⟨bc', 0, none⟩)) rfl (by kernel_rfl) (by kernel_rfl) (by kernel_rfl) (fun _ _ _ h => h) (Or.inl ⟨by kernel_rfl, fun W h => (by first | kernel_rfl | go_simp)⟩) hbk ?_
      try simp only [Act.put, List.setIfInBounds_toArray, List.set_cons_zero, List.set_cons_succ]
      refine wpAnyH_take (i := 23) (oi := { dst := some 63, op := Op.fieldAddr 57 (Operand.tmp 62) 0, type := 0, pos := "law07.go:254", after := #[{ on := 22, ground := Ground.data }, { on := 14, ground := Ground.guard }], guard := some (14, true) }) (v := .pointer (some ⟨bc', 0, none⟩)) rfl (by kernel_rfl) (by kernel_rfl) (by kernel_rfl) (fun _ _ _ h => h) (Or.inl ⟨by kernel_rfl, fun W h => (by first | kernel_rfl | go_simp)⟩) hbk ?_
      try simp only [Act.put, List.setIfInBounds_toArray, List.set_cons_zero, List.set_cons_succ]
      refine wpAnyH_take (i := 24) (oi := { dst := some 64, op := Op.load 44 (Operand.tmp 63), type := 44, pos := "law07.go:254", after := #[{ on := 23, ground := Ground.data }, { on := 14, ground := Ground.guard }], guard := some (14, true) }) (v := .agg cs2) rfl (by kernel_rfl) (by kernel_rfl) (by kernel_rfl) (fun _ _ _ h => h) (Or.inl ⟨by kernel_rfl, fun W h => Lif.ld_img (off := 0) (.tmp 63) (by kernel_rfl) (by kernel_rfl) W h.row (by simp [zi2]) (app_fst zi2)⟩) hbk ?_
      try simp only [Act.put, List.setIfInBounds_toArray, List.set_cons_zero, List.set_cons_succ]
      refine wpAnyH_take (i := 25) (oi := { dst := some 65, op := Op.load 44 (Operand.tmp 5), type := 44, pos := "law07.go:254", after := #[{ on := 14, ground := Ground.guard }], guard := some (14, true) }) (v := .agg cs) rfl (by kernel_rfl) (by kernel_rfl) (by kernel_rfl) (fun _ _ _ h => h) (Or.inl ⟨by kernel_rfl, fun W h => Lif.ld_img (off := 0) (.tmp 5) (by kernel_rfl) (by kernel_rfl) W h.box (by rw [zi]; omega) (by rw [Nat.zero_add, show 94 = cs.size from zi.symm]; simp)⟩) hbk ?_
      try simp only [Act.put, List.setIfInBounds_toArray, List.set_cons_zero, List.set_cons_succ]
      refine wpAnyH_take (i := 26) (oi := { dst := some 66, op := Op.binOp BinOp.eql 44 (Operand.tmp 64) (Operand.tmp 65) 44, type := 4, pos := "law07.go:254", after := #[{ on := 24, ground := Ground.data }, { on := 25, ground := Ground.data }, { on := 14, ground := Ground.guard }], guard := some (14, true) }) (v := .bool true) rfl (by kernel_rfl) (by kernel_rfl) (by kernel_rfl) (fun _ _ _ h => h) (Or.inl ⟨by kernel_rfl, fun W h => run_exec_eqv 44 44 (.tmp 64) (.tmp 65) (by kernel_rfl) cs2 cs (by kernel_rfl) (by kernel_rfl) true (by kernel_rfl) QN W⟩) hbk ?_
      try simp only [Act.put, List.setIfInBounds_toArray, List.set_cons_zero, List.set_cons_succ]
      refine wpAnyH_take (i := 27) (oi := { dst := some 67, op := Op.pick (Operand.tmp 54) (Operand.tmp 66) (Operand.const (Value.bool false)), type := 4, pos := "law07.go:254", after := #[{ on := 14, ground := Ground.data }, { on := 26, ground := Ground.data }], guard := none }) (v := .bool true) rfl (by kernel_rfl) (by kernel_rfl) (by kernel_rfl) (fun _ _ _ h => h) (Or.inl ⟨by kernel_rfl, fun W h => (by first | kernel_rfl | go_simp)⟩) hbk ?_
      try simp only [Act.put, List.setIfInBounds_toArray, List.set_cons_zero, List.set_cons_succ]
      refine wpAnyH_take (i := 28) (oi := { dst := some 68, op := Op.move (Operand.tmp 67), type := 4, pos := "law07.go:254", after := #[{ on := 27, ground := Ground.data }, { on := 14, ground := Ground.chain }], guard := none }) (v := .bool true) rfl (by kernel_rfl) (by kernel_rfl) (by kernel_rfl) (fun _ _ _ h => h) (Or.inl ⟨by kernel_rfl, fun W h => (by first | kernel_rfl | go_simp)⟩) hbk ?_
      try simp only [Act.put, List.setIfInBounds_toArray, List.set_cons_zero, List.set_cons_succ]
      refine wpAnyH_take (i := 29) (oi := { dst := some 69, op := Op.move (Operand.tmp 3), type := 25, pos := "law07.go:254", after := #[{ on := 28, ground := Ground.guard }], guard := some (28, true) }) (v := .pointer (some ⟨bl, 0, none⟩)) rfl (by kernel_rfl) (by kernel_rfl) (by kernel_rfl) (fun _ _ _ h => h) (Or.inl ⟨by kernel_rfl, fun W h => (by first | kernel_rfl | go_simp)⟩) hbk ?_
      try simp only [Act.put, List.setIfInBounds_toArray, List.set_cons_zero, List.set_cons_succ]
      refine wpAnyH_take (i := 30) (oi := { dst := some 70, op := Op.nilCheck (Operand.tmp 69), type := 0, pos := "law07.go:254", after := #[{ on := 29, ground := Ground.data }, { on := 28, ground := Ground.guard }], guard := some (28, true) }) (v := .pointer (some ⟨bl, 0, none⟩)) rfl (by kernel_rfl) (by kernel_rfl) (by kernel_rfl) (fun _ _ _ h => h) (Or.inl ⟨by kernel_rfl, fun W h => (by first | kernel_rfl | go_simp)⟩) hbk ?_
      try simp only [Act.put, List.setIfInBounds_toArray, List.set_cons_zero, List.set_cons_succ]
      refine wpAnyH_take (i := 31) (oi := { dst := some 71, op := Op.fieldAddr 50 (Operand.tmp 70) 0, type := 0, pos := "law07.go:254", after := #[{ on := 30, ground := Ground.data }, { on := 28, ground := Ground.guard }], guard := some (28, true) }) (v := .pointer (some ⟨bl, 0, none⟩)) rfl (by kernel_rfl) (by kernel_rfl) (by kernel_rfl) (fun _ _ _ h => h) (Or.inl ⟨by kernel_rfl, fun W h => (by first | kernel_rfl | go_simp)⟩) hbk ?_
      try simp only [Act.put, List.setIfInBounds_toArray, List.set_cons_zero, List.set_cons_succ]
      refine wpAnyH_take (i := 32) (oi := { dst := some 72, op := Op.load 46 (Operand.tmp 71), type := 46, pos := "law07.go:254", after := #[{ on := 31, ground := Ground.data }, { on := 28, ground := Ground.guard }], guard := some (28, true) }) (v := .pointer (some ⟨bf', 0, none⟩)) rfl (by kernel_rfl) (by kernel_rfl) (by kernel_rfl) (fun _ _ _ h => h) (Or.inl ⟨by kernel_rfl, fun W h => Op1.ld_files (.tmp 71) (by kernel_rfl) (by kernel_rfl) W h.p0⟩) hbk ?_
      try simp only [Act.put, List.setIfInBounds_toArray, List.set_cons_zero, List.set_cons_succ]
      refine wpAnyH_take (i := 33) (oi := { dst := some 73, op := Op.nilCheck (Operand.tmp 72), type := 0, pos := "law07.go:254", after := #[{ on := 32, ground := Ground.data }, { on := 28, ground := Ground.guard }], guard := some (28, true) }) (v := .pointer (some ⟨bf', 0, none⟩)) rfl (by kernel_rfl) (by kernel_rfl) (by kernel_rfl) (fun _ _ _ h => h) (Or.inl ⟨by kernel_rfl, fun W h => (by first | kernel_rfl | go_simp)⟩) hbk ?_
      try simp only [Act.put, List.setIfInBounds_toArray, List.set_cons_zero, List.set_cons_succ]
      refine wpAnyH_take (i := 34) (oi := { dst := some 74, op := Op.fieldAddr 53 (Operand.tmp 73) 0, type := 0, pos := "law07.go:254", after := #[{ on := 33, ground := Ground.data }, { on := 28, ground := Ground.guard }], guard := some (28, true) }) (v := .pointer (some ⟨bf', 0, none⟩)) rfl (by kernel_rfl) (by kernel_rfl) (by kernel_rfl) (fun _ _ _ h => h) (Or.inl ⟨by kernel_rfl, fun W h => (by first | kernel_rfl | go_simp)⟩) hbk ?_
      try simp only [Act.put, List.setIfInBounds_toArray, List.set_cons_zero, List.set_cons_succ]
      refine wpAnyH_take (i := 35) (oi := { dst := some 75, op := Op.load 51 (Operand.tmp 74), type := 51, pos := "law07.go:254", after := #[{ on := 34, ground := Ground.data }, { on := 28, ground := Ground.guard }], guard := some (28, true) }) (v := .pointer (some ⟨bc', 0, none⟩)) rfl (by kernel_rfl) (by kernel_rfl) (by kernel_rfl) (fun _ _ _ h => h) (Or.inl ⟨by kernel_rfl, fun W h => Lif.ld_cache (.tmp 74) (by kernel_rfl) (by kernel_rfl) W h.p1⟩) hbk ?_
      try simp only [Act.put, List.setIfInBounds_toArray, List.set_cons_zero, List.set_cons_succ]
      have CL2 := hide (unhide H7).fo.cln
      rw [(unhide TN).1, (unhide TN).2.1, Img.same_iff.2 (Img.Agree.refl T.now)] at CL2
      refine wpAnyH_ready (rs := [36]) (by kernel_rfl) (by simp) ?_
      refine AllReadyH.cons (o := { dst := some 76, op := Op.call { callee := Callee.value (Operand.func 30), args := #[Operand.tmp 75], argTypes := #[51] }, type := 4, pos := "law07.go:254", after := #[{ on := 35, ground := Ground.data }, { on := 28, ground := Ground.chain }, { on := 28, ground := Ground.guard }], guard := some (28, true) }) rfl (fun K hK => ?_) AllReadyH.nil
      rw [if_pos (by kernel_rfl)]
      go_simp
      refine (unhide CL2).mono ?_
      rintro e w8 ⟨rfl, b8⟩
      have H8 := hide ((unhide H7).call b8)
      have hb8 := hbk.below b8
      clear b8 CL2 H7 hbk
      go_wp2_with fail
      refine hK.out _ _ (hb8) (fun hS8 => ?_)
      clear hK K
      try simp only [Act.put, List.setIfInBounds_toArray, List.set_cons_zero, List.set_cons_succ]
      refine wpAnyH_take (i := 37) (oi := { dst := some 77, op := Op.pick (Operand.tmp 68) (Operand.tmp 76) (Operand.const (Value.bool false)), type := 4, pos := "law07.go:254", after := #[{ on := 28, ground := Ground.data }, { on := 36, ground := Ground.data }], guard := none }) (v := .bool true) rfl (by kernel_rfl) (by kernel_rfl) (by kernel_rfl) (fun _ _ _ h => h) (Or.inl ⟨by kernel_rfl, fun W h => (by first | kernel_rfl | go_simp)⟩) hS8 ?_
      try simp only [Act.put, List.setIfInBounds_toArray, List.set_cons_zero, List.set_cons_succ]
      refine wpAnyH_take (i := 38) (oi := { dst := some 78, op := Op.move (Operand.tmp 77), type := 4, pos := "law07.go:254", after := #[{ on := 37, ground := Ground.data }, { on := 36, ground := Ground.chain }], guard := none }) (v := .bool true) rfl (by kernel_rfl) (by kernel_rfl) (by kernel_rfl) (fun _ _ _ h => h) (Or.inl ⟨by kernel_rfl, fun W h => (by first | kernel_rfl | go_simp)⟩) hS8 ?_
      try simp only [Act.put, List.setIfInBounds_toArray, List.set_cons_zero, List.set_cons_succ]
      refine wpAnyH_take (i := 39) (oi := { dst := some 79, op := Op.move (Operand.tmp 3), type := 25, pos := "law07.go:254", after := #[{ on := 38, ground := Ground.guard }], guard := some (38, true) }) (v := .pointer (some ⟨bl, 0, none⟩)) rfl (by kernel_rfl) (by kernel_rfl) (by kernel_rfl) (fun _ _ _ h => h) (Or.inl ⟨by kernel_rfl, fun W h => (by first | kernel_rfl | go_simp)⟩) hS8 ?_
      try simp only [Act.put, List.setIfInBounds_toArray, List.set_cons_zero, List.set_cons_succ]
      refine wpAnyH_take (i := 41) (oi := { dst := some 81, op := Op.build 48 #[], type := 48, pos := "law07.go:254", after := #[{ on := 38, ground := Ground.guard }], guard := some (38, true) }) (v := .agg (lostA 0 0 0)) rfl (by kernel_rfl) (by kernel_rfl) (by kernel_rfl) (fun _ _ _ h => h) (Or.inl ⟨by kernel_rfl, fun W h => (by first | kernel_rfl | go_simp)⟩) hS8 ?_
      try simp only [Act.put, List.setIfInBounds_toArray, List.set_cons_zero, List.set_cons_succ]
      have LL := hide (lLost_any (unhide H8))
      rw [(unhide TN).2.2.1, (unhide TN).2.2.2.1, (unhide TN).2.2.2.2.1] at LL
      have QL := fun W => eqLost 0 0 0 0 0 0 W
      refine wpAnyH_ready (rs := [40]) (by kernel_rfl) (by simp) ?_
      refine AllReadyH.cons (o := { dst := some 80, op := Op.call { callee := Callee.value (Operand.func 20), args := #[Operand.tmp 79], argTypes := #[25] }, type := 48, pos := "law07.go:254", after := #[{ on := 39, ground := Ground.data }, { on := 38, ground := Ground.chain }, { on := 38, ground := Ground.guard }], guard := some (38, true) }) rfl (fun K hK => ?_) AllReadyH.nil
      rw [if_pos (by kernel_rfl)]
      go_simp
      refine (unhide LL).mono ?_
      rintro e w9 ⟨rfl, b9⟩
      have H9 := hide ((unhide H8).call b9)
      have hb9 := hb8.below b9
      clear b9 LL H8 hb8
      go_wp2_with fail
      refine hK.out _ _ (hb9) (fun hS9 => ?_)
      clear hK K
      try simp only [Act.put, List.setIfInBounds_toArray, List.set_cons_zero, List.set_cons_succ]
      refine wpAnyH_take (i := 42) (oi := { dst := some 82, op := Op.binOp BinOp.eql 48 (Operand.tmp 80) (Operand.tmp 81) 48, type := 4, pos := "law07.go:254", after := #[{ on := 40, ground := Ground.data }, { on := 41, ground := Ground.data }, { on := 38, ground := Ground.guard }], guard := some (38, true) }) (v := .bool true) rfl (by kernel_rfl) (by kernel_rfl) (by kernel_rfl) (fun _ _ _ h => h) (Or.inl ⟨by kernel_rfl, fun W h => run_exec_eqv 48 48 (.tmp 80) (.tmp 81) (by kernel_rfl) (lostA 0 0 0) (lostA 0 0 0) (by kernel_rfl) (by kernel_rfl) true (by kernel_rfl) QL W⟩) hS9 ?_
      try simp only [Act.put, List.setIfInBounds_toArray, List.set_cons_zero, List.set_cons_succ]
      refine wpAnyH_take (i := 43) (oi := { dst := some 83, op := Op.pick (Operand.tmp 78) (Operand.tmp 82) (Operand.const (Value.bool false)), type := 4, pos := "law07.go:254", after := #[{ on := 38, ground := Ground.data }, { on := 42, ground := Ground.data }], guard := none }) (v := .bool true) rfl (by kernel_rfl) (by kernel_rfl) (by kernel_rfl) (fun _ _ _ h => h) (Or.inl ⟨by kernel_rfl, fun W h => (by first | kernel_rfl | go_simp)⟩) hS9 ?_
      try simp only [Act.put, List.setIfInBounds_toArray, List.set_cons_zero, List.set_cons_succ]
      refine wpAnyH_take (i := 44) (oi := { dst := some 84, op := Op.move (Operand.tmp 83), type := 4, pos := "law07.go:254", after := #[{ on := 43, ground := Ground.data }, { on := 40, ground := Ground.chain }], guard := none }) (v := .bool true) rfl (by kernel_rfl) (by kernel_rfl) (by kernel_rfl) (fun _ _ _ h => h) (Or.inl ⟨by kernel_rfl, fun W h => (by first | kernel_rfl | go_simp)⟩) hS9 ?_
      try simp only [Act.put, List.setIfInBounds_toArray, List.set_cons_zero, List.set_cons_succ]
      refine wpAnyH_take (i := 45) (oi := { dst := some 85, op := Op.move (Operand.tmp 3), type := 25, pos := "law07.go:254", after := #[{ on := 44, ground := Ground.guard }], guard := some (44, true) }) (v := .pointer (some ⟨bl, 0, none⟩)) rfl (by kernel_rfl) (by kernel_rfl) (by kernel_rfl) (fun _ _ _ h => h) (Or.inl ⟨by kernel_rfl, fun W h => (by first | kernel_rfl | go_simp)⟩) hS9 ?_
      try simp only [Act.put, List.setIfInBounds_toArray, List.set_cons_zero, List.set_cons_succ]
      refine wpAnyH_take (i := 47) (oi := { dst := some 87, op := Op.move (Operand.tmp 6), type := 3, pos := "law07.go:254", after := #[{ on := 44, ground := Ground.guard }], guard := some (44, true) }) (v := .int .i64 T.cr) rfl (by kernel_rfl) (by kernel_rfl) (by kernel_rfl) (fun _ _ _ h => h) (Or.inl ⟨by kernel_rfl, fun W h => (by first | kernel_rfl | go_simp)⟩) hS9 ?_
      try simp only [Act.put, List.setIfInBounds_toArray, List.set_cons_zero, List.set_cons_succ]
      refine wpAnyH_take (i := 48) (oi := { dst := some 88, op := Op.binOp BinOp.add 3 (Operand.tmp 87) (Operand.const (Value.int IntKind.i64 1)) 3, type := 3, pos := "law07.go:254", after := #[{ on := 47, ground := Ground.data }, { on := 44, ground := Ground.guard }], guard := some (44, true) }) (v := .int .i64 (T.cr + 1)) rfl (by kernel_rfl) (by kernel_rfl) (by kernel_rfl) (fun _ _ _ h => h) (Or.inl ⟨by kernel_rfl, fun W h => Op1.add1 (.tmp 87) (by kernel_rfl) (by kernel_rfl) (by kernel_rfl) hcr W⟩) hS9 ?_
      try simp only [Act.put, List.setIfInBounds_toArray, List.set_cons_zero, List.set_cons_succ]
      have LC := hide (lCrashes_any (unhide H9))
      rw [(unhide TN).2.2.2.2.2] at LC
      refine wpAnyH_ready (rs := [46]) (by kernel_rfl) (by simp) ?_
      refine AllReadyH.cons (o := { dst := some 86, op := Op.call { callee := Callee.value (Operand.func 19), args := #[Operand.tmp 85], argTypes := #[25] }, type := 3, pos := "law07.go:254", after := #[{ on := 45, ground := Ground.data }, { on := 44, ground := Ground.chain }, { on := 44, ground := Ground.guard }], guard := some (44, true) }) rfl (fun K hK => ?_) AllReadyH.nil
      rw [if_pos (by kernel_rfl)]
      go_simp
      refine (unhide LC).mono ?_
      rintro e wq ⟨rfl, e9⟩
      rw [e9]
      clear e9 wq
      go_wp2_with fail
      refine hK.out _ _ (hb9) (fun hS10 => ?_)
      clear hK K
      try simp only [Act.put, List.setIfInBounds_toArray, List.set_cons_zero, List.set_cons_succ]
      refine wpAnyH_take (i := 49) (oi := { dst := some 89, op := Op.binOp BinOp.eql 3 (Operand.tmp 86) (Operand.tmp 88) 3, type := 4, pos := "law07.go:254", after := #[{ on := 46, ground := Ground.data }, { on := 48, ground := Ground.data }, { on := 44, ground := Ground.guard }], guard := some (44, true) }) (v := .bool true) rfl (by kernel_rfl) (by kernel_rfl) (by kernel_rfl) (fun _ _ _ h => h) (Or.inl ⟨by kernel_rfl, fun W h => Lif.eqi (v := T.cr + 1) (.tmp 86) (.tmp 88) (by kernel_rfl) (by kernel_rfl) (by kernel_rfl) W⟩) hS10 ?_
      try simp only [Act.put, List.setIfInBounds_toArray, List.set_cons_zero, List.set_cons_succ]
      refine wpAnyH_take (i := 50) (oi := { dst := some 90, op := Op.pick (Operand.tmp 84) (Operand.tmp 89) (Operand.const (Value.bool false)), type := 4, pos := "law07.go:254", after := #[{ on := 44, ground := Ground.data }, { on := 49, ground := Ground.data }], guard := none }) (v := .bool true) rfl (by kernel_rfl) (by kernel_rfl) (by kernel_rfl) (fun _ _ _ h => h) (Or.inl ⟨by kernel_rfl, fun W h => (by first | kernel_rfl | go_simp)⟩) hS10 ?_
      try simp only [Act.put, List.setIfInBounds_toArray, List.set_cons_zero, List.set_cons_succ]
      refine wpAnyH_take (i := 51) (oi := { dst := some 2, op := Op.assign (Operand.tmp 90), type := 4, pos := "law07.go:254", after := #[{ on := 50, ground := Ground.data }, { on := 46, ground := Ground.chain }, { on := 0, ground := Ground.phase }, { on := 1, ground := Ground.phase }, { on := 2, ground := Ground.phase }, { on := 3, ground := Ground.phase }, { on := 4, ground := Ground.phase }, { on := 5, ground := Ground.phase }, { on := 6, ground := Ground.phase }, { on := 7, ground := Ground.phase }, { on := 8, ground := Ground.phase }, { on := 9, ground := Ground.phase }, { on := 10, ground := Ground.phase }, { on := 11, ground := Ground.phase }, { on := 12, ground := Ground.phase }, { on := 13, ground := Ground.phase }, { on := 14, ground := Ground.phase }, { on := 15, ground := Ground.phase }, { on := 16, ground := Ground.phase }, { on := 17, ground := Ground.phase }, { on := 18, ground := Ground.phase }, { on := 19, ground := Ground.phase }, { on := 20, ground := Ground.phase }, { on := 21, ground := Ground.phase }, { on := 22, ground := Ground.phase }, { on := 23, ground := Ground.phase }, { on := 24, ground := Ground.phase }, { on := 25, ground := Ground.phase }, { on := 26, ground := Ground.phase }, { on := 27, ground := Ground.phase }, { on := 28, ground := Ground.phase }, { on := 29, ground := Ground.phase }, { on := 30, ground := Ground.phase }, { on := 31, ground := Ground.phase }, { on := 32, ground := Ground.phase }, { on := 33, ground := Ground.phase }, { on := 34, ground := Ground.phase }, { on := 35, ground := Ground.phase }, { on := 36, ground := Ground.phase }, { on := 37, ground := Ground.phase }, { on := 38, ground := Ground.phase }, { on := 39, ground := Ground.phase }, { on := 40, ground := Ground.phase }, { on := 41, ground := Ground.phase }, { on := 42, ground := Ground.phase }, { on := 43, ground := Ground.phase }, { on := 44, ground := Ground.phase }, { on := 45, ground := Ground.phase }, { on := 46, ground := Ground.phase }, { on := 47, ground := Ground.phase }, { on := 48, ground := Ground.phase }, { on := 49, ground := Ground.phase }, { on := 50, ground := Ground.phase }], guard := none }) (v := .bool true) rfl (by kernel_rfl) (by kernel_rfl) (by kernel_rfl) (fun _ _ _ h => h) (Or.inl ⟨by kernel_rfl, fun W h => (by first | kernel_rfl | go_simp)⟩) hS10 ?_
      try simp only [Act.put, List.setIfInBounds_toArray, List.set_cons_zero, List.set_cons_succ]
      refine wpAnyH_done (by kernel_rfl) ?_ _
      have BZ := hide (unhide H9).bel
      clear hS10 hS9 hS8 hb9
      go_wp2_with fail
      go_ret
      exact ⟨rfl, unhide BZ⟩
end Go.Proofs.YtmbpckmpnnmnmacGreat
namespace Go.Proofs.YtmbpckmpnnmnmacGreat
open Go.RowKit
open Idl (Stp chk stpA)
section
variable {m k : Img}
theorem last_dead {n : Nat} (hn : n < 8) (h : k.refs (n : Int) = 0) : (Img.mend k).live n = false := by
  rw [Img.mend_live hn]
  unfold Img.goes
  rw [h]
  cases k.live n <;> rfl
structure LastIs (k : Img) (n : Nat) : Prop where
  live : (Img.mend k).live n = true
  stamp : (Img.mend k).stamp n = k.stamp n
  p0 : (Img.mend k).part n 0 = k.part n 0
  p1 : (Img.mend k).part n 1 = k.part n 1
  links : (Img.mend k).links n = (k.refs (n : Int) : Nat)
  data : ∀ p y, p < 2 → (Img.mend k).part n p = (y : Nat) → y < 9 ∧ (Img.mend k).of y = k.of y ∧ (Img.mend k).text y = k.text y
  neg : ∀ p, p < 2 → (Img.mend k).part n p < 0 ∨ ∃ y : Nat, (Img.mend k).part n p = (y : Nat)
theorem last_is (hk : k.check = 0) {n : Nat} (hn : n < 8) (h : k.refs (n : Int) ≠ 0) : LastIs k n := by
  have hg := Img.mend_on (disk := k) (n := n) (by omega)
  have hl := Img.left hn hg
  have lv : k.live n = true := by
    cases e : k.live n
    · exact absurd (Img.dead_refs hk e) h
    · rfl
  have lm : (Img.mend k).live n = true := by rw [hl.live]; exact lv
  refine ⟨lm, hl.stamp, hl.part 0 (by omega), hl.part 1 (by omega), hl.links, fun p y hp e => ?_, fun p _ => ?_⟩
  · have hc := Img.mend_check hk
    rcases Img.checkPart_iff.1 ((Img.inode_parts_ok hc hn lm).2.2 p hp) with z | z
    · omega
    · have hy : y < 9 := by
        have : 0 ≤ (Img.mend k).part n p ∧ (Img.mend k).part n p < 9 := by simpa [Img.isD] using z.1
        omega
      have hh : (Img.mend k).holds (y : Int) = true := by
        cases e2 : (Img.mend k).holds (y : Int)
        · exact absurd e (Img.mholds_not hy e2 hn hp lm)
        · rfl
      have hd := Img.mend_data k hy
      have hlost : Img.lost (Img.mend2 k) y = false := by
        unfold Img.lost
        rw [← Img.mend_holds, hh]; simp
      rw [hlost] at hd
      rw [if_neg (by simp), if_neg (by simp)] at hd
      exact ⟨hy, hd.1, hd.2⟩
  · by_cases c : (Img.mend k).part n p < 0
    · exact .inl c
    · exact .inr ⟨((Img.mend k).part n p).toNat, by omega⟩
theorem last_sure {d : Int} {s : ByteArray} (h : Img.ssure m k d s = true) : 0 ≤ (Img.mend k).findAt d s.toList := by
  unfold Img.ssure at h
  rw [Bool.and_eq_true, decide_eq_true_eq] at h
  obtain ⟨hd, hs, j, hj, e, hnm, hn⟩ := Img.findAt_some h.1
  have h2 := h.2
  rw [e, Int.toNat_natCast] at h2
  have h3 := (Img.sameEnt_entry h2).1
  rw [hnm] at h3
  by_cases c : 0 ≤ (Img.mend k).findAt d s.toList
  · exact c
  · exact absurd (by rw [(Img.mend_dirs k).1]; exact h3.symm) (Img.findAt_none (m := Img.mend k) (by omega) hd hs j hj)
theorem dat_under2 : Tryz.prog.underlying 41 = some (.struct (Tryz.prog.fieldsOf 41)) := by kernel_rfl
theorem dirs_under : Tryz.prog.underlying 39 = some (.array 3 38) := by kernel_rfl
theorem dirs_info : (Tryz.prog.info? 39).map (·.size) = some 36 := by kernel_rfl
theorem neqlDirs {cs ds : Array Value} (h : IsImg cs m) (h' : IsImg ds k) (w : World) : (binOp .neq 39 (.agg (cs.extract 40 (40 + 36))) (.agg (ds.extract 40 (40 + 36)))).run Tryz.prog w = .ok (.bool (!((List.range 3).all fun e => Img.sameDir m k e))) w := by
  rw [run_neq_struct, eqDirs_v h h' 9996 w]; rfl
theorem neqlParts (a b c e : Int) (w : World) : (binOp .neq 32 (.agg #[.int .i64 a, .int .i64 b]) (.agg #[.int .i64 c, .int .i64 e])).run Tryz.prog w = .ok (.bool (!(a == c && b == e))) w := by
  rw [run_neq_struct, eqParts_v 9998 a b c e w]; rfl
theorem dirs_same (m : Img) : (!((List.range 3).all fun e => Img.sameDir (Img.mend m) m e)) = false := by
  obtain ⟨h1, h2, h3⟩ := Img.mend_dirs m
  have : ((List.range 3).all fun e => Img.sameDir (Img.mend m) m e) = true := by
    rw [List.all_eq_true]
    intro e _
    unfold Img.sameDir
    rw [List.all_eq_true]
    intro s _
    unfold Img.sameEnt
    rw [h1, h2, h3]; simp
  rw [this]; rfl
end
namespace Lif
variable {P : Program} in
theorem ld_some {o : Oper} {ρ : Operand → Value} (ty : TypeId) (x : Operand) (ho : o.op = .load ty x) (g off n : Nat) (hx : ρ x = .pointer (some ⟨g, off, none⟩)) (w : World) (t : TypeId) (cs vs : Array Value) (d : TypeDesc)
    (hg : w.heap[g]? = some (.cells cs t (0, 0))) (hu : P.underlying ty = some d) (hd : (match d with | .struct _ | .array _ _ => true | _ => false) = true) (hi : (P.info? ty).map (·.size) = some n) (hn : off + n ≤ cs.size) (hv : cs.extract off (off + n) = vs) :
    (execOp ρ o).run P w = .ok (.value (.agg vs)) w := by
  subst hv
  unfold execOp
  simp only [ho, hx, Instr.loadAt, Instr.sureAddr, Sem.run_bind, Sem.run_pure, Result.andThen_ok, run_loadVar_part w g off n t ty cs d hg hu hd hi hn]
theorem app_dirs {cs ds : Array Value} (h : cs.size = 94) : (cs ++ ds).extract 40 (40 + 36) = cs.extract 40 (40 + 36) := by
  refine Array.ext_getElem? fun j => ?_
  rw [Array.getElem?_extract, Array.getElem?_extract]
  simp only [Array.size_append, h]
  by_cases c : j < 36
  · rw [if_pos (by omega), if_pos (by omega), Array.getElem?_append_left (by omega)]
  · rw [if_neg (by omega), if_neg (by omega)]
theorem app_ino {cs ds : Array Value} (h : cs.size = 94) {n : Nat} (hn : n < 8) : (cs ++ ds).extract (n * 5) (n * 5 + 5) = cs.extract (n * 5) (n * 5 + 5) := by
  refine Array.ext_getElem? fun j => ?_
  rw [Array.getElem?_extract, Array.getElem?_extract]
  simp only [Array.size_append, h]
  by_cases c : j < 5
  · rw [if_pos (by omega), if_pos (by omega), Array.getElem?_append_left (by omega)]
  · rw [if_neg (by omega), if_neg (by omega)]
theorem app_dat {cs ds : Array Value} (h : cs.size = 94) {y : Nat} (hy : y < 9) : (cs ++ ds).extract (76 + y * 2) (76 + y * 2 + 2) = cs.extract (76 + y * 2) (76 + y * 2 + 2) := by
  refine Array.ext_getElem? fun j => ?_
  rw [Array.getElem?_extract, Array.getElem?_extract]
  simp only [Array.size_append, h]
  by_cases c : j < 2
  · rw [if_pos (by omega), if_pos (by omega), Array.getElem?_append_left (by omega)]
  · rw [if_neg (by omega), if_neg (by omega)]
theorem datR {cs : Array Value} {m : Img} (h : IsImg cs m) {y : Nat} (hy : y < 9) : cs.extract (76 + y * 2) (76 + y * 2 + 2) = #[.int .i64 (m.of y), .string (m.text y)] := by
  have h1 := h.of y hy
  have h2 := h.text y hy
  have hz := h.size
  refine Array.ext_getElem? fun j => ?_
  rw [Array.getElem?_extract]
  match j with
  | 0 => rw [if_pos (by omega)]; exact h1
  | 1 => rw [if_pos (by omega)]; exact h2
  | j + 2 => rw [if_neg (by omega)]; rfl
theorem ix_inos {o : Oper} {ρ : Operand → Value} (x y : Operand) (ho : o.op = .indexAddr 35 x y) {g j : Nat} (hx : ρ x = .pointer (some ⟨g, 0, none⟩)) (hy : ρ y = .int .i64 ((j : Nat) : Int)) (hj : j < 8) (w : World) : (execOp ρ o).run Tryz.prog w = .ok (.value (.pointer (some ⟨g, j * 5, none⟩))) w := by
  have jz : (j : Int) < 8 := by omega
  unfold execOp
  rw [ho]
  go_simp
theorem ix_dats {o : Oper} {ρ : Operand → Value} (x y : Operand) (ho : o.op = .indexAddr 42 x y) {g j : Nat} (hx : ρ x = .pointer (some ⟨g, 76, none⟩)) (hy : ρ y = .int .i64 ((j : Nat) : Int)) (hj : j < 9) (w : World) : (execOp ρ o).run Tryz.prog w = .ok (.value (.pointer (some ⟨g, 76 + j * 2, none⟩))) w := by
  have jz : (j : Int) < 9 := by omega
  unfold execOp
  rw [ho]
  go_simp
theorem lssf {o : Oper} {ρ : Operand → Value} (x : Operand) (ho : o.op = .binOp .lss 3 x (.const (.int .i64 1)) 3) {v : Int} (hx : ρ x = .int .i64 v) (hy : ρ (.const (.int .i64 1)) = .int .i64 1) (hv : decide (v < 1) = false) (w : World) : (execOp ρ o).run Tryz.prog w = .ok (.value (.bool false)) w := by
  unfold execOp
  rw [ho]
  go_simp
theorem neqf {o : Oper} {ρ : Operand → Value} (x y : Operand) (ho : o.op = .binOp .neq 3 x y 3) {u v : Int} (hx : ρ x = .int .i64 u) (hy : ρ y = .int .i64 v) (hv : (u != v) = false) (w : World) : (execOp ρ o).run Tryz.prog w = .ok (.value (.bool false)) w := by
  unfold execOp
  rw [ho]
  go_simp
theorem geq0 {o : Oper} {ρ : Operand → Value} (x : Operand) (ho : o.op = .binOp .geq 3 x (.const (.int .i64 0)) 3) {v : Int} (hx : ρ x = .int .i64 v) (hy : ρ (.const (.int .i64 0)) = .int .i64 0) {b : Bool} (hv : decide (0 ≤ v) = b) (w : World) : (execOp ρ o).run Tryz.prog w = .ok (.value (.bool b)) w := by
  unfold execOp
  rw [ho]
  go_simp
theorem geq9 {o : Oper} {ρ : Operand → Value} (x : Operand) (ho : o.op = .binOp .geq 3 x (.const (.int .i64 9)) 3) {v : Int} (hx : ρ x = .int .i64 v) (hy : ρ (.const (.int .i64 9)) = .int .i64 9) (hv : decide (9 ≤ v) = false) (w : World) : (execOp ρ o).run Tryz.prog w = .ok (.value (.bool false)) w := by
  unfold execOp
  rw [ho]
  go_simp
theorem ld_int {o : Oper} {ρ : Operand → Value} (x : Operand) (ho : o.op = .load 3 x) {g o0 : Nat} (hx : ρ x = .pointer (some ⟨g, o0, none⟩)) {v : Int} (w : World) (h : w.cell? ⟨g, o0, none⟩ = some (.int .i64 v)) : (execOp ρ o).run Tryz.prog w = .ok (.value (.int .i64 v)) w := by
  unfold execOp
  rw [ho]
  go_simp
theorem ld_bool {o : Oper} {ρ : Operand → Value} (x : Operand) (ho : o.op = .load 4 x) {g o0 : Nat} (hx : ρ x = .pointer (some ⟨g, o0, none⟩)) {v : Bool} (w : World) (h : w.cell? ⟨g, o0, none⟩ = some (.bool v)) : (execOp ρ o).run Tryz.prog w = .ok (.value (.bool v)) w := by
  unfold execOp
  rw [ho]
  go_simp
theorem ld_parts {o : Oper} {ρ : Operand → Value} (x : Operand) (ho : o.op = .load 32 x) {g : Nat} (hx : ρ x = .pointer (some ⟨g, 3, none⟩)) {a b : Int} (w : World) (h : w.cell? ⟨g, 3, none⟩ = some (.int .i64 a)) (h' : w.cell? ⟨g, 4, none⟩ = some (.int .i64 b)) : (execOp ρ o).run Tryz.prog w = .ok (.value (.agg #[.int .i64 a, .int .i64 b])) w := by
  unfold execOp
  rw [ho]
  go_simp
theorem inoC_cells {m : Img} {n g : Nat} {V : World} (h : V.heap[g]? = some (.cells (inoC m n) 34)) : V.cell? ⟨g, 0, none⟩ = some (.bool (m.live n)) ∧ V.cell? ⟨g, 1, none⟩ = some (.int .i64 (m.stamp n)) ∧ V.cell? ⟨g, 2, none⟩ = some (.int .i64 (m.links n)) ∧ V.cell? ⟨g, 3, none⟩ = some (.int .i64 (m.part n 0)) ∧ V.cell? ⟨g, 4, none⟩ = some (.int .i64 (m.part n 1)) :=
  ⟨by rw [cell_of_row _ _ _ _ _ _ h]; rfl, by rw [cell_of_row _ _ _ _ _ _ h]; rfl, by rw [cell_of_row _ _ _ _ _ _ h]; rfl, by rw [cell_of_row _ _ _ _ _ _ h]; rfl, by rw [cell_of_row _ _ _ _ _ _ h]; rfl⟩
end Lif
set_option maxHeartbeats 8000000 in
set_option maxRecDepth 100000 in
theorem lifeLast_any {w : World} {v : Value} {L : List Stp} (hs : Idl.Steps w v L) (d : Int) (nm : ByteArray) (_hnm : nm.size ≤ maxLen) :
    Calls Tryz.prog 8 #[v, .int .i64 d, .string nm] w fun e w' => e = .returned (.bool true) ∧ Below w.heap.size w w' := by
  have z := zero_img.1
  have hbg := Lif.begun_any w
  have HG := hide fun W (bW : Below w.heap.size w W) => Idl.greatSteps_any (hs.below bW)
  have HOk := hide hs.ok
  have hgl : Idl.greats L = false → L.length ≤ 200 := fun h => by
    simp only [Idl.greats, Bool.or_eq_false_iff, decide_eq_false_iff_not] at h
    omega
  have HGL := hide hgl
  obtain ⟨a, c, rfl, hst⟩ := Sft.Steps.gen hs
  have HST := hide hst
  clear hs hgl hst
  go_enter Tryz.func8, Tryz.ntmps8
  go_wp2_with fail
  refine hbg.mono ?_
  rintro e w1 ⟨rfl, b1⟩
  have B1 := hide b1
  have hg := unhide HG w1 b1
  clear b1 hbg
  cases hgr : Idl.greats L <;> rw [hgr] at hg
  case true =>
    clear hgr
    go_wp2_with fail
    refine hg.mono ?_
    rintro e w2 ⟨rfl, b2⟩
    have B2 := hide ((unhide B1).trans (b2.mono (unhide B1).size))
    clear b2 hg
    go_wp2_with fail
    go_ret
    exact ⟨rfl, unhide B2⟩
  have h200 := unhide HGL hgr
  clear hgr HGL HG
  by_cases hgn : (nm.size : Int) ≤ 100
  case neg =>
    have hgn2 : decide (100 < (nm.size : Int)) = true := by simp; omega
    go_wp2_with fail
    refine hg.mono ?_
    rintro e w2 ⟨rfl, b2⟩
    have B2 := hide ((unhide B1).trans (b2.mono (unhide B1).size))
    clear b2 hg
    go_wp2_with fail
    go_ret
    exact ⟨rfl, unhide B2⟩
  have hgn2 : decide (100 < (nm.size : Int)) = false := by simp; omega
  go_wp2_with fail
  refine hg.mono ?_
  rintro e w2 ⟨rfl, b2⟩
  have B2 := hide ((unhide B1).trans (b2.mono (unhide B1).size))
  clear b2 hg B1
  go_wp2_with fail
  refine (lNew_any w (unhide B2)).mono ?_
  rintro e w3 ⟨bl, bf0, bc0, rfl, _, _, _, h3, _⟩
  have H3 := hide h3
  clear h3 B2 hgn hgn2
  go_wp2_with fail
  go_loopw [8] (fun i wr => ∃ (j bf bc : Nat) (S : Lv), j ≤ L.length ∧ i = .int .i64 j ∧ Hid (Lo w bl bf bc S wr) ∧ Hid (S.Ok j)) (fun i _ => L.length - (intOf i).toNat)
  case atStart => exact ⟨0, bf0, bc0, Lv.new, Nat.zero_le _, rfl, H3, hide Lv.Ok.start⟩
  case round =>
    clear H3
    obtain ⟨j, bf, bc, S, hj, rfl, HF, HK⟩ := hrel
    by_cases hlt : j < L.length
    case pos =>
      have hjn : (j : Int) < (L.length : Int) := by omega
      obtain ⟨ga, oa, rfl, hga, hca⟩ := unhide HST j hlt
      have hxo := unhide HOk L[j] (List.getElem_mem hlt)
      generalize L[j] = x at hca hxo
      have HXO := hide hxo.big
      have HCA := hide hca
      have S0 := unhide HCA _ (unhide HF).bel
      have D := hide (lStep_any (unhide HF) (unhide HK) (by omega) x (unhide HXO).1 (unhide HXO).2.1 (unhide HXO).2.2)
      have K1 := hide ((unhide HK).any x)
      clear hca hxo HST HOk hga
      go_wp2_with (first | (refine wpList_value rfl (Lif.ix_step (c := c) _ _ rfl (g := ga) (q := oa) (n := L.length) (j := j) rfl rfl hlt _) ?_) | (refine wpList_value rfl (Lif.ld_step _ rfl rfl x _ S0) ?_))
      refine (unhide D).mono ?_
      rintro e w4 ⟨rfl, bf', bc', h4, _⟩
      have H4 := hide h4
      clear h4 D S0 HF
      go_wp2_with fail
      go_roundw
      case rel => exact ⟨j + 1, bf', bc', _, by omega, by go_num, H4, K1⟩
      case measure => simp [intOf]; omega
    clear HST HOk
    have q0 := (unhide HF).ptr
    have q1 := (unhide HF).ptr2
    have DK := hide (unhide HF).fo.dsk
    go_wp2_with fail
    refine (unhide DK).mono ?_
    rintro e w5 ⟨⟨ds, rfl, hds⟩, b5⟩
    have H5 := hide ((unhide HF).call b5)
    clear b5 DK HF q0 q1
    have s1 := hide (heap_alloc_last w5 (.cells zeroCells 44))
    have BA := hide (below_setRow ((Below.refl w5.heap.size w5).alloc (Nat.le_refl _) (.cells zeroCells 44)) (Nat.le_refl w5.heap.size) ds)
    have RA := hide (setRow_heap (w5.alloc (.cells zeroCells 44)) w5.heap.size _ ds _ _ (heap_alloc_last w5 (.cells zeroCells 44)))
    have NG := hide (show w5.heap.size ≠ bl ∧ w5.heap.size ≠ bf ∧ w5.heap.size ≠ bc by have := (unhide H5).lt; have := (unhide H5).fo.cells.2.1; have := (unhide H5).fo.cells.2.2.1; omega)
    go_upto_region 11 with ((have hx := unhide s1; refine wpList_store_row rfl 44 _ _ rfl w5.heap.size ds rfl rfl 44 zeroCells hx (img_info (hds).size) (zero_size hds) (hds).all ?_; clear hx s1; generalize (w5.alloc (.cells zeroCells 44)).setRow w5.heap.size ds = X6 at BA RA ⊢))
    have H6 := hide ((unhide H5).call (unhide BA))
    generalize w5.heap.size = g9 at RA NG ⊢
    clear BA H5
    have q0 := (unhide H6).ptr
    have CS := hide ((unhide H6).fo.sure d nm)
    obtain ⟨su, hsu⟩ : ∃ b : Bool, b = Img.ssure S.now S.disk d nm := ⟨_, rfl⟩
    rw [← hsu] at CS
    have HSU := hide hsu
    clear hsu
    go_wp2_with fail
    refine (unhide CS).mono ?_
    rintro e w7 ⟨rfl, _, b7⟩
    have H7 := hide ((unhide H6).call b7)
    have R7 := hide (show w7.heap[g9]? = some (.cells ds 44) by rw [b7.block _ (Array.getElem?_eq_some_iff.1 (unhide RA)).1]; exact unhide RA)
    clear b7 CS H6 RA q0
    have s0 : Idl.none0.size ≤ maxLen := Sft.small _ (Nat.zero_le _)
    have D9 := hide (lStep_any (unhide H7) (unhide HK) (by omega) Lif.y5 s0 s0 s0)
    rw [(S.step_nine (x := Lif.y5) rfl).1, (S.step_nine (x := Lif.y5) rfl).2] at D9
    simp only [stpA, Lif.y5, Idl.none0] at D9
    have KC := hide (unhide HK).hold.ok
    have CR := hide (show decide (S.crash.cr < 1) = false by have := (unhide HK).cr0; show decide (S.cr + 1 < 1) = false; simp; omega)
    clear s0
    go_wp2_with fail
    refine (unhide D9).mono ?_
    rintro e w8 ⟨rfl, bf', bc', h8, l8⟩
    have H8 := hide h8
    have R8 := hide (l8.row (unhide R7) (unhide NG)).1
    have hds' : IsImg ds S.disk := hds
    clear h8 l8 D9 H7 R7 NG HK
    go_upto_region 14 with fail
    have Hd := hide ((unhide H8).call (Below.refl _ w8).drew)
    have R8d : w8.drew.heap[g9]? = some (.cells ds 44) := unhide R8
    obtain ⟨cs2, ds2, hbk, hi2, hj2⟩ := Lif.Bk.of (unhide Hd) R8d
    have hi2 : IsImg cs2 (Img.mend S.disk) := hi2
    have hj2 : IsImg ds2 (Img.mend S.disk) := hj2
    have zi2 := hi2.size
    have zj2 := hj2.size
    have zds := hds.size
    have QS := fun W => neqlDirs hi2 hds W
    rw [dirs_same] at QS
    clear R8d R8 H8
    refine wp_region_held_drew (S := Lif.Bk bl bf' bc' g9 cs2 ds2 ds) (by kernel_rfl) (hbk) (fun hS => ?_)
    refine wpAnyH_take (i := 0) (oi := { dst := some 57, op := Op.move (Operand.tmp 7), type := 25, pos := "law07.go:215", after := #[], guard := none }) (v := .pointer (some ⟨bl, 0, none⟩)) rfl (by kernel_rfl) (by kernel_rfl) (by kernel_rfl) (fun _ _ _ h => h) (Or.inl ⟨by kernel_rfl, fun W h => (by first | kernel_rfl | go_simp)⟩) hbk ?_
    try simp only [Act.put, List.setIfInBounds_toArray, List.set_cons_zero, List.set_cons_succ]
    refine wpAnyH_take (i := 1) (oi := { dst := some 58, op := Op.nilCheck (Operand.tmp 57), type := 0, pos := "law07.go:215", after := #[{ on := 0, ground := Ground.data }], guard := none }) (v := .pointer (some ⟨bl, 0, none⟩)) rfl (by kernel_rfl) (by kernel_rfl) (by kernel_rfl) (fun _ _ _ h => h) (Or.inl ⟨by kernel_rfl, fun W h => (by first | kernel_rfl | go_simp)⟩) hbk ?_
    try simp only [Act.put, List.setIfInBounds_toArray, List.set_cons_zero, List.set_cons_succ]
    refine wpAnyH_take (i := 2) (oi := { dst := some 59, op := Op.fieldAddr 50 (Operand.tmp 58) 0, type := 0, pos := "law07.go:215", after := #[{ on := 1, ground := Ground.data }], guard := none }) (v := .pointer (some ⟨bl, 0, none⟩)) rfl (by kernel_rfl) (by kernel_rfl) (by kernel_rfl) (fun _ _ _ h => h) (Or.inl ⟨by kernel_rfl, fun W h => (by first | kernel_rfl | go_simp)⟩) hbk ?_
    try simp only [Act.put, List.setIfInBounds_toArray, List.set_cons_zero, List.set_cons_succ]
    refine wpAnyH_take (i := 3) (oi := { dst := some 60, op := Op.load 46 (Operand.tmp 59), type := 46, pos := "law07.go:215", after := #[{ on := 2, ground := Ground.data }], guard := none }) (v := .pointer (some ⟨bf', 0, none⟩)) rfl (by kernel_rfl) (by kernel_rfl) (by kernel_rfl) (fun _ _ _ h => h) (Or.inl ⟨by kernel_rfl, fun W h => Op1.ld_files (.tmp 59) (by kernel_rfl) (by kernel_rfl) W h.p0⟩) hbk ?_
    try simp only [Act.put, List.setIfInBounds_toArray, List.set_cons_zero, List.set_cons_succ]
    refine wpAnyH_take (i := 4) (oi := { dst := some 61, op := Op.nilCheck (Operand.tmp 60), type := 0, pos := "law07.go:215", after := #[{ on := 3, ground := Ground.data }], guard := none }) (v := .pointer (some ⟨bf', 0, none⟩)) rfl (by kernel_rfl) (by kernel_rfl) (by kernel_rfl) (fun _ _ _ h => h) (Or.inl ⟨by kernel_rfl, fun W h => (by first | kernel_rfl | go_simp)⟩) hbk ?_
    try simp only [Act.put, List.setIfInBounds_toArray, List.set_cons_zero, List.set_cons_succ]
    refine wpAnyH_take (i := 5) (oi := { dst := some 62, op := Op.fieldAddr 53 (Operand.tmp 61) 0, type := 0, pos := "law07.go:215", after := #[{ on := 4, ground := Ground.data }], guard := none }) (v := .pointer (some ⟨bf', 0, none⟩)) rfl (by kernel_rfl) (by kernel_rfl) (by kernel_rfl) (fun _ _ _ h => h) (Or.inl ⟨by kernel_rfl, fun W h => (by first | kernel_rfl | go_simp)⟩) hbk ?_
    try simp only [Act.put, List.setIfInBounds_toArray, List.set_cons_zero, List.set_cons_succ]
    refine wpAnyH_take (i := 6) (oi := { dst := some 63, op := Op.load 51 (Operand.tmp 62), type := 51, pos := "law07.go:215", after := #[{ on := 5, ground := Ground.data }], guard := none }) (v := .pointer (some ⟨bc', 0, none⟩)) rfl (by kernel_rfl) (by kernel_rfl) (by kernel_rfl) (fun _ _ _ h => h) (Or.inl ⟨by kernel_rfl, fun W h => Lif.ld_cache (.tmp 62) (by kernel_rfl) (by kernel_rfl) W h.p1⟩) hbk ?_
    try simp only [Act.put, List.setIfInBounds_toArray, List.set_cons_zero, List.set_cons_succ]
    refine wpAnyH_take (i := 7) (oi := { dst := some 64, op := Op.nilCheck (Operand.tmp 63), type := 0, pos := "law07.go:215", after := #[{ on := 6, ground := Ground.data }], guard := none }) (v := .pointer (some ⟨bc', 0, none⟩)) rfl (by kernel_rfl) (by kernel_rfl) (by kernel_rfl) (fun _ _ _ h => h) (Or.inl ⟨by kernel_rfl, fun W h => (by first | kernel_rfl | go_simp)⟩) hbk ?_
    try simp only [Act.put, List.setIfInBounds_toArray, List.set_cons_zero, List.set_cons_succ]
    refine wpAnyH_take (i := 8) (oi := { dst := some 65, op := Op.fieldAddr 57 (Operand.tmp 64) 0, type := 0, pos := "law07.go:215", after := #[{ on := 7, ground := Ground.data }], guard := none }) (v := .pointer (some ⟨bc', 0, none⟩)) rfl (by kernel_rfl) (by kernel_rfl) (by kernel_rfl) (fun _ _ _ h => h) (Or.inl ⟨by kernel_rfl, fun W h => (by first | kernel_rfl | go_simp)⟩) hbk ?_
    try simp only [Act.put, List.setIfInBounds_toArray, List.set_cons_zero, List.set_cons_succ]
    refine wpAnyH_take (i := 9) (oi := { dst := some 66, op := Op.fieldAddr 44 (Operand.tmp 65) 1, type := 0, pos := "law07.go:215", after := #[{ on := 8, ground := Ground.data }], guard := none }) (v := .pointer (some ⟨bc', 40, none⟩)) rfl (by kernel_rfl) (by kernel_rfl) (by kernel_rfl) (fun _ _ _ h => h) (Or.inl ⟨by kernel_rfl, fun W h => (by first | kernel_rfl | go_simp)⟩) hbk ?_
    try simp only [Act.put, List.setIfInBounds_toArray, List.set_cons_zero, List.set_cons_succ]
    refine wpAnyH_take (i := 10) (oi := { dst := some 67, op := Op.load 39 (Operand.tmp 66), type := 39, pos := "law07.go:215", after := #[{ on := 9, ground := Ground.data }], guard := none }) (v := .agg (cs2.extract 40 (40 + 36))) rfl (by kernel_rfl) (by kernel_rfl) (by kernel_rfl) (fun _ _ _ h => h) (Or.inl ⟨by kernel_rfl, fun W h => Lif.ld_some 39 (.tmp 66) (by kernel_rfl) _ _ _ (by kernel_rfl) W _ _ _ _ h.row dirs_under rfl dirs_info (by rw [Array.size_append, zi2]; omega) (Lif.app_dirs zi2)⟩) hbk ?_
    try simp only [Act.put, List.setIfInBounds_toArray, List.set_cons_zero, List.set_cons_succ]
    refine wpAnyH_take (i := 11) (oi := { dst := some 68, op := Op.fieldAddr 44 (Operand.tmp 9) 1, type := 0, pos := "law07.go:215", after := #[], guard := none }) (v := .pointer (some ⟨g9, 40, none⟩)) rfl (by kernel_rfl) (by kernel_rfl) (by kernel_rfl) (fun _ _ _ h => h) (Or.inl ⟨by kernel_rfl, fun W h => (by first | kernel_rfl | go_simp)⟩) hbk ?_
    try simp only [Act.put, List.setIfInBounds_toArray, List.set_cons_zero, List.set_cons_succ]
    refine wpAnyH_take (i := 12) (oi := { dst := some 69, op := Op.load 39 (Operand.tmp 68), type := 39, pos := "law07.go:215", after := #[{ on := 11, ground := Ground.data }], guard := none }) (v := .agg (ds.extract 40 (40 + 36))) rfl (by kernel_rfl) (by kernel_rfl) (by kernel_rfl) (fun _ _ _ h => h) (Or.inl ⟨by kernel_rfl, fun W h => Lif.ld_some 39 (.tmp 68) (by kernel_rfl) _ _ _ (by kernel_rfl) W _ _ _ _ h.box dirs_under rfl dirs_info (by rw [zds]; omega) rfl⟩) hbk ?_
    try simp only [Act.put, List.setIfInBounds_toArray, List.set_cons_zero, List.set_cons_succ]
    refine wpAnyH_take (i := 13) (oi := { dst := some 70, op := Op.binOp BinOp.neq 39 (Operand.tmp 67) (Operand.tmp 69) 39, type := 4, pos := "law07.go:215", after := #[{ on := 10, ground := Ground.data }, { on := 12, ground := Ground.data }], guard := none }) (v := .bool false) rfl (by kernel_rfl) (by kernel_rfl) (by kernel_rfl) (fun _ _ _ h => h) (Or.inl ⟨by kernel_rfl, fun W h => run_exec_nev 39 39 (.tmp 67) (.tmp 69) (by kernel_rfl) _ _ (by kernel_rfl) (by kernel_rfl) false (by kernel_rfl) QS W⟩) hbk ?_
    try simp only [Act.put, List.setIfInBounds_toArray, List.set_cons_zero, List.set_cons_succ]
    refine wpAnyH_take (i := 14) (oi := { dst := some 71, op := Op.move (Operand.tmp 70), type := 4, pos := "law07.go:215", after := #[{ on := 13, ground := Ground.data }], guard := none }) (v := .bool false) rfl (by kernel_rfl) (by kernel_rfl) (by kernel_rfl) (fun _ _ _ h => h) (Or.inl ⟨by kernel_rfl, fun W h => (by first | kernel_rfl | go_simp)⟩) hbk ?_
    try simp only [Act.put, List.setIfInBounds_toArray, List.set_cons_zero, List.set_cons_succ]
    refine wpAnyH_take (i := 15) (oi := { dst := some 72, op := Op.move (Operand.tmp 7), type := 25, pos := "law07.go:215", after := #[{ on := 14, ground := Ground.guard }], guard := some (14, false) }) (v := .pointer (some ⟨bl, 0, none⟩)) rfl (by kernel_rfl) (by kernel_rfl) (by kernel_rfl) (fun _ _ _ h => h) (Or.inl ⟨by kernel_rfl, fun W h => (by first | kernel_rfl | go_simp)⟩) hbk ?_
    try simp only [Act.put, List.setIfInBounds_toArray, List.set_cons_zero, List.set_cons_succ]
    refine wpAnyH_take (i := 16) (oi := { dst := some 73, op := Op.nilCheck (Operand.tmp 72), type := 0, pos := "law07.go:215", after := #[{ on := 15, ground := Ground.data }, { on := 14, ground := Ground.guard }], guard := some (14, false) }) (v := .pointer (some ⟨bl, 0, none⟩)) rfl (by kernel_rfl) (by kernel_rfl) (by kernel_rfl) (fun _ _ _ h => h) (Or.inl ⟨by kernel_rfl, fun W h => (by first | kernel_rfl | go_simp)⟩) hbk ?_
    try simp only [Act.put, List.setIfInBounds_toArray, List.set_cons_zero, List.set_cons_succ]
    refine wpAnyH_take (i := 17) (oi := { dst := some 74, op := Op.fieldAddr 50 (Operand.tmp 73) 0, type := 0, pos := "law07.go:215", after := #[{ on := 16, ground := Ground.data }, { on := 14, ground := Ground.guard }], guard := some (14, false) }) (v := .pointer (some ⟨bl, 0, none⟩)) rfl (by kernel_rfl) (by kernel_rfl) (by kernel_rfl) (fun _ _ _ h => h) (Or.inl ⟨by kernel_rfl, fun W h => (by first | kernel_rfl | go_simp)⟩) hbk ?_
    try simp only [Act.put, List.setIfInBounds_toArray, List.set_cons_zero, List.set_cons_succ]
    refine wpAnyH_take (i := 18) (oi := { dst := some 75, op := Op.load 46 (Operand.tmp 74), type := 46, pos := "law07.go:215", after := #[{ on := 17, ground := Ground.data }, { on := 14, ground := Ground.guard }], guard := some (14, false) }) (v := .pointer (some ⟨bf', 0, none⟩)) rfl (by kernel_rfl) (by kernel_rfl) (by kernel_rfl) (fun _ _ _ h => h) (Or.inl ⟨by kernel_rfl, fun W h => Op1.ld_files (.tmp 74) (by kernel_rfl) (by kernel_rfl) W h.p0⟩) hbk ?_
    try simp only [Act.put, List.setIfInBounds_toArray, List.set_cons_zero, List.set_cons_succ]
    refine wpAnyH_take (i := 19) (oi := { dst := some 76, op := Op.nilCheck (Operand.tmp 75), type := 0, pos := "law07.go:215", after := #[{ on := 18, ground := Ground.data }, { on := 14, ground := Ground.guard }], guard := some (14, false) }) (v := .pointer (some ⟨bf', 0, none⟩)) rfl (by kernel_rfl) (by kernel_rfl) (by kernel_rfl) (fun _ _ _ h => h) (Or.inl ⟨by kernel_rfl, fun W h => (by first | kernel_rfl | go_simp)⟩) hbk ?_
    try simp only [Act.put, List.setIfInBounds_toArray, List.set_cons_zero, List.set_cons_succ]
    refine wpAnyH_take (i := 20) (oi := { dst := some 77, op := Op.fieldAddr 53 (Operand.tmp 76) 0, type := 0, pos := "law07.go:215", after := #[{ on := 19, ground := Ground.data }, { on := 14, ground := Ground.guard }], guard := some (14, false) }) (v := .pointer (some ⟨bf', 0, none⟩)) rfl (by kernel_rfl) (by kernel_rfl) (by kernel_rfl) (fun _ _ _ h => h) (Or.inl ⟨by kernel_rfl, fun W h => (by first | kernel_rfl | go_simp)⟩) hbk ?_
    try simp only [Act.put, List.setIfInBounds_toArray, List.set_cons_zero, List.set_cons_succ]
    refine wpAnyH_take (i := 21) (oi := { dst := some 78, op := Op.load 51 (Operand.tmp 77), type := 51, pos := "law07.go:215", after := #[{ on := 20, ground := Ground.data }, { on := 14, ground := Ground.guard }], guard := some (14, false) }) (v := .pointer (some ⟨bc', 0, none⟩)) rfl (by kernel_rfl) (by kernel_rfl) (by kernel_rfl) (fun _ _ _ h => h) (Or.inl ⟨by kernel_rfl, fun W h => Lif.ld_cache (.tmp 77) (by kernel_rfl) (by kernel_rfl) W h.p1⟩) hbk ?_
    try simp only [Act.put, List.setIfInBounds_toArray, List.set_cons_zero, List.set_cons_succ]
    have CL := hide (unhide Hd).fo.cln
    rw [show S.crash.now = S.crash.disk from rfl, Img.same_iff.2 (Img.Agree.refl S.crash.disk)] at CL
    refine wpAnyH_ready (rs := [22]) (by kernel_rfl) (by simp) ?_
    refine AllReadyH.cons (o := { dst := some 79, op := Op.call { callee := Callee.value (Operand.func 30), args := #[Operand.tmp 78], argTypes := #[51] }, type := 4, pos := "law07.go:215", after := #[{ on := 21, ground := Ground.data }, { on := 14, ground := Ground.chain }, { on := 14, ground := Ground.guard }], guard := some (14, false) }) rfl (fun K hK => ?_) AllReadyH.nil
    rw [if_pos (by kernel_rfl)]
    go_simp
    refine (unhide CL).mono ?_
    rintro e w9 ⟨rfl, b9⟩
    have H9 := hide ((unhide Hd).call b9)
    have hb9 := hbk.below b9
    clear b9 CL Hd hbk
    go_wp2_with fail
    refine hK.out _ _ (hb9) (fun hS9 => ?_)
    clear hK K
    try simp only [Act.put, List.setIfInBounds_toArray, List.set_cons_zero, List.set_cons_succ]
    refine wpAnyH_take (i := 23) (oi := { dst := some 80, op := Op.unOp UnOp.not 4 (Operand.tmp 79), type := 4, pos := "law07.go:215", after := #[{ on := 22, ground := Ground.data }, { on := 14, ground := Ground.guard }], guard := some (14, false) }) (v := .bool false) rfl (by kernel_rfl) (by kernel_rfl) (by kernel_rfl) (fun _ _ _ h => h) (Or.inl ⟨by kernel_rfl, fun W h => (by first | kernel_rfl | go_simp)⟩) hS9 ?_
    try simp only [Act.put, List.setIfInBounds_toArray, List.set_cons_zero, List.set_cons_succ]
    refine wpAnyH_take (i := 24) (oi := { dst := some 81, op := Op.pick (Operand.tmp 71) (Operand.const (Value.bool true)) (Operand.tmp 80), type := 4, pos := "law07.go:215", after := #[{ on := 14, ground := Ground.data }, { on := 23, ground := Ground.data }], guard := none }) (v := .bool false) rfl (by kernel_rfl) (by kernel_rfl) (by kernel_rfl) (fun _ _ _ h => h) (Or.inl ⟨by kernel_rfl, fun W h => (by first | kernel_rfl | go_simp)⟩) hS9 ?_
    try simp only [Act.put, List.setIfInBounds_toArray, List.set_cons_zero, List.set_cons_succ]
    refine wpAnyH_take (i := 25) (oi := { dst := some 82, op := Op.move (Operand.tmp 81), type := 4, pos := "law07.go:215", after := #[{ on := 24, ground := Ground.data }, { on := 22, ground := Ground.chain }], guard := none }) (v := .bool false) rfl (by kernel_rfl) (by kernel_rfl) (by kernel_rfl) (fun _ _ _ h => h) (Or.inl ⟨by kernel_rfl, fun W h => (by first | kernel_rfl | go_simp)⟩) hS9 ?_
    try simp only [Act.put, List.setIfInBounds_toArray, List.set_cons_zero, List.set_cons_succ]
    refine wpAnyH_take (i := 26) (oi := { dst := some 83, op := Op.move (Operand.tmp 7), type := 25, pos := "law07.go:215", after := #[{ on := 25, ground := Ground.guard }], guard := some (25, false) }) (v := .pointer (some ⟨bl, 0, none⟩)) rfl (by kernel_rfl) (by kernel_rfl) (by kernel_rfl) (fun _ _ _ h => h) (Or.inl ⟨by kernel_rfl, fun W h => (by first | kernel_rfl | go_simp)⟩) hS9 ?_
    try simp only [Act.put, List.setIfInBounds_toArray, List.set_cons_zero, List.set_cons_succ]
    refine wpAnyH_ready (rs := [27]) (by kernel_rfl) (by simp) ?_
    refine AllReadyH.cons (o := { dst := some 84, op := Op.call { callee := Callee.value (Operand.func 19), args := #[Operand.tmp 83], argTypes := #[25] }, type := 3, pos := "law07.go:215", after := #[{ on := 26, ground := Ground.data }, { on := 25, ground := Ground.chain }, { on := 25, ground := Ground.guard }], guard := some (25, false) }) rfl (fun K hK => ?_) AllReadyH.nil
    rw [if_pos (by kernel_rfl)]
    go_simp
    refine (lCrashes_any (unhide H9)).mono ?_
    rintro e wq ⟨rfl, e9⟩
    rw [e9]
    clear e9 wq
    go_wp2_with fail
    refine hK.out _ _ (hb9) (fun hS10 => ?_)
    clear hK K
    try simp only [Act.put, List.setIfInBounds_toArray, List.set_cons_zero, List.set_cons_succ]
    refine wpAnyH_take (i := 28) (oi := { dst := some 85, op := Op.binOp BinOp.lss 3 (Operand.tmp 84) (Operand.const (Value.int IntKind.i64 1)) 3, type := 4, pos := "law07.go:215", after := #[{ on := 27, ground := Ground.data }, { on := 25, ground := Ground.guard }], guard := some (25, false) }) (v := .bool false) rfl (by kernel_rfl) (by kernel_rfl) (by kernel_rfl) (fun _ _ _ h => h) (Or.inl ⟨by kernel_rfl, fun W h => Lif.lssf (.tmp 84) (by kernel_rfl) (by kernel_rfl) (by kernel_rfl) (unhide CR) W⟩) hS10 ?_
    try simp only [Act.put, List.setIfInBounds_toArray, List.set_cons_zero, List.set_cons_succ]
    refine wpAnyH_take (i := 29) (oi := { dst := some 86, op := Op.pick (Operand.tmp 82) (Operand.const (Value.bool true)) (Operand.tmp 85), type := 4, pos := "law07.go:215", after := #[{ on := 25, ground := Ground.data }, { on := 28, ground := Ground.data }], guard := none }) (v := .bool false) rfl (by kernel_rfl) (by kernel_rfl) (by kernel_rfl) (fun _ _ _ h => h) (Or.inl ⟨by kernel_rfl, fun W h => (by first | kernel_rfl | go_simp)⟩) hS10 ?_
    try simp only [Act.put, List.setIfInBounds_toArray, List.set_cons_zero, List.set_cons_succ]
    refine wpAnyH_done (by kernel_rfl) ?_ _
    clear hS hS9 hS10 QS
    have HBK := hide hb9
    clear hb9
    go_wp2_with fail
    go_loopw [11] (fun i wr => ∃ n : Nat, n ≤ 8 ∧ i = .int .i64 n ∧ Hid (Lo w bl bf' bc' S.crash wr) ∧ Hid (Lif.Bk bl bf' bc' g9 cs2 ds2 ds wr)) (fun i _ => 8 - (intOf i).toNat)
    case atStart => exact ⟨0, Nat.zero_le _, rfl, H9, HBK⟩
    case round =>
      clear H9 HBK
      obtain ⟨n, hn, rfl, HL, HBK⟩ := hrel
      by_cases hn8 : n < 8
      case neg =>
        have t8 : decide ((n : Int) < 8) = false := by simp; omega
        have q0 := (unhide HBK).p0
        have q1 := (unhide HBK).p1
        have FD := hide (find_any bc' (Img.mend S.disk) d nm wr (Sft.HasAt.img (hasAt_of (unhide HBK).row (o := 0) (by rw [Array.size_append, zi2]; omega) (by rw [Nat.zero_add]; exact app_fst zi2) hi2)))
        cases su
        case false =>
          go_wp2_with fail
          go_ret
          exact ⟨rfl, (unhide HL).bel⟩
        have FG0 := last_sure (unhide HSU).symm
        obtain ⟨fi, hfi⟩ : ∃ i : Int, i = (Img.mend S.disk).findAt d nm.toList := ⟨_, rfl⟩
        rw [← hfi] at FD FG0
        have fg : decide (0 ≤ fi) = true := by simpa using FG0
        clear hfi FG0
        go_wp2_with fail
        refine (unhide FD).mono ?_
        rintro e wq ⟨rfl, e9⟩
        rw [e9]
        clear e9 wq
        go_wp2_with fail
        go_ret
        exact ⟨rfl, (unhide HL).bel⟩
      have t8 : decide ((n : Int) < 8) = true := by simp; omega
      have zN := zero_inoZ
      go_upto_region 19 with fail
      go_cut [12, 13] (fun p q wx => ∃ g1 g2, p = .pointer (some ⟨g1, 0, none⟩) ∧ q = .pointer (some ⟨g2, 0, none⟩) ∧ Hid (Below wr.heap.size wr wx) ∧ Hid (wx.heap[g1]? = some (.cells (inoC S.disk n) 34)) ∧ Hid (wx.heap[g2]? = some (.cells (inoC (Img.mend S.disk) n) 34)))
      case first =>
        have hbd : Lif.Bk bl bf' bc' g9 cs2 ds2 ds wr.drew := (unhide HBK).below (Below.refl _ wr).drew
        refine wp_region_held_drew (S := Lif.Bk bl bf' bc' g9 cs2 ds2 ds) (by kernel_rfl) (hbd) (fun hS => ?_)
        refine wpAnyH_take (i := 0) (oi := { dst := some 91, op := Op.move (Operand.tmp 11), type := 3, pos := "law07.go:219", after := #[], guard := none }) (v := .int .i64 (n : Int)) rfl (by kernel_rfl) (by kernel_rfl) (by kernel_rfl) (fun _ _ _ h => h) (Or.inl ⟨by kernel_rfl, fun W h => (by first | kernel_rfl | go_simp)⟩) hbd ?_
        try simp only [Act.put, List.setIfInBounds_toArray, List.set_cons_zero, List.set_cons_succ]
        refine wpAnyH_take (i := 1) (oi := { dst := some 92, op := Op.fieldAddr 44 (Operand.tmp 9) 0, type := 0, pos := "law07.go:219", after := #[], guard := none }) (v := .pointer (some ⟨g9, 0, none⟩)) rfl (by kernel_rfl) (by kernel_rfl) (by kernel_rfl) (fun _ _ _ h => h) (Or.inl ⟨by kernel_rfl, fun W h => (by first | kernel_rfl | go_simp)⟩) hbd ?_
        try simp only [Act.put, List.setIfInBounds_toArray, List.set_cons_zero, List.set_cons_succ]
        refine wpAnyH_take (i := 2) (oi := { dst := some 93, op := Op.indexAddr 35 (Operand.tmp 92) (Operand.tmp 91), type := 0, pos := "law07.go:219", after := #[{ on := 1, ground := Ground.data }, { on := 0, ground := Ground.data }], guard := none }) (v := .pointer (some ⟨g9, n * 5, none⟩)) rfl (by kernel_rfl) (by kernel_rfl) (by kernel_rfl) (fun _ _ _ h => h) (Or.inl ⟨by kernel_rfl, fun W h => Lif.ix_inos (.tmp 92) (.tmp 91) (by kernel_rfl) (by kernel_rfl) (by kernel_rfl) hn8 W⟩) hbd ?_
        try simp only [Act.put, List.setIfInBounds_toArray, List.set_cons_zero, List.set_cons_succ]
        refine wpAnyH_take (i := 3) (oi := { dst := some 94, op := Op.load 34 (Operand.tmp 93), type := 34, pos := "law07.go:219", after := #[{ on := 2, ground := Ground.data }], guard := none }) (v := .agg (inoC S.disk n)) rfl (by kernel_rfl) (by kernel_rfl) (by kernel_rfl) (fun _ _ _ h => h) (Or.inl ⟨by kernel_rfl, fun W h => Lif.ld_some 34 (.tmp 93) (by kernel_rfl) _ _ _ (by kernel_rfl) W _ _ _ _ h.box ino_under rfl ino_cells5 (by rw [zds]; omega) (inoC_row hds hn8)⟩) hbd ?_
        try simp only [Act.put, List.setIfInBounds_toArray, List.set_cons_zero, List.set_cons_succ]
        refine wpAnyH_take (i := 4) (oi := { dst := some 95, op := Op.move (Operand.tmp 7), type := 25, pos := "law07.go:219", after := #[{ on := 19, ground := Ground.gcOnly Departure.lateStores }], guard := none }) (v := .pointer (some ⟨bl, 0, none⟩)) rfl (by kernel_rfl) (by kernel_rfl) (by kernel_rfl) (fun _ _ _ h => h) (Or.inl ⟨by kernel_rfl, fun W h => (by first | kernel_rfl | go_simp)⟩) hbd ?_
        try simp only [Act.put, List.setIfInBounds_toArray, List.set_cons_zero, List.set_cons_succ]
        refine wpAnyH_take (i := 5) (oi := { dst := some 96, op := Op.nilCheck (Operand.tmp 95), type := 0, pos := "law07.go:219", after := #[{ on := 4, ground := Ground.data }, { on := 19, ground := Ground.gcOnly Departure.lateStores }], guard := none }) (v := .pointer (some ⟨bl, 0, none⟩)) rfl (by kernel_rfl) (by kernel_rfl) (by kernel_rfl) (fun _ _ _ h => h) (Or.inl ⟨by kernel_rfl, fun W h => (by first | kernel_rfl | go_simp)⟩) hbd ?_
        try simp only [Act.put, List.setIfInBounds_toArray, List.set_cons_zero, List.set_cons_succ]
        refine wpAnyH_take (i := 6) (oi := { dst := some 97, op := Op.fieldAddr 50 (Operand.tmp 96) 0, type := 0, pos := "law07.go:219", after := #[{ on := 5, ground := Ground.data }, { on := 19, ground := Ground.gcOnly Departure.lateStores }], guard := none }) (v := .pointer (some ⟨bl, 0, none⟩)) rfl (by kernel_rfl) (by kernel_rfl) (by kernel_rfl) (fun _ _ _ h => h) (Or.inl ⟨by kernel_rfl, fun W h => (by first | kernel_rfl | go_simp)⟩) hbd ?_
        try simp only [Act.put, List.setIfInBounds_toArray, List.set_cons_zero, List.set_cons_succ]
        refine wpAnyH_take (i := 7) (oi := { dst := some 98, op := Op.load 46 (Operand.tmp 97), type := 46, pos := "law07.go:219", after := #[{ on := 6, ground := Ground.data }, { on := 19, ground := Ground.gcOnly Departure.lateStores }], guard := none }) (v := .pointer (some ⟨bf', 0, none⟩)) rfl (by kernel_rfl) (by kernel_rfl) (by kernel_rfl) (fun _ _ _ h => h) (Or.inl ⟨by kernel_rfl, fun W h => Op1.ld_files (.tmp 97) (by kernel_rfl) (by kernel_rfl) W h.p0⟩) hbd ?_
        try simp only [Act.put, List.setIfInBounds_toArray, List.set_cons_zero, List.set_cons_succ]
        refine wpAnyH_take (i := 8) (oi := { dst := some 99, op := Op.nilCheck (Operand.tmp 98), type := 0, pos := "law07.go:219", after := #[{ on := 7, ground := Ground.data }, { on := 19, ground := Ground.gcOnly Departure.lateStores }], guard := none }) (v := .pointer (some ⟨bf', 0, none⟩)) rfl (by kernel_rfl) (by kernel_rfl) (by kernel_rfl) (fun _ _ _ h => h) (Or.inl ⟨by kernel_rfl, fun W h => (by first | kernel_rfl | go_simp)⟩) hbd ?_
        try simp only [Act.put, List.setIfInBounds_toArray, List.set_cons_zero, List.set_cons_succ]
        refine wpAnyH_take (i := 9) (oi := { dst := some 100, op := Op.fieldAddr 53 (Operand.tmp 99) 0, type := 0, pos := "law07.go:219", after := #[{ on := 8, ground := Ground.data }, { on := 19, ground := Ground.gcOnly Departure.lateStores }], guard := none }) (v := .pointer (some ⟨bf', 0, none⟩)) rfl (by kernel_rfl) (by kernel_rfl) (by kernel_rfl) (fun _ _ _ h => h) (Or.inl ⟨by kernel_rfl, fun W h => (by first | kernel_rfl | go_simp)⟩) hbd ?_
        try simp only [Act.put, List.setIfInBounds_toArray, List.set_cons_zero, List.set_cons_succ]
        refine wpAnyH_take (i := 10) (oi := { dst := some 101, op := Op.load 51 (Operand.tmp 100), type := 51, pos := "law07.go:219", after := #[{ on := 9, ground := Ground.data }, { on := 19, ground := Ground.gcOnly Departure.lateStores }], guard := none }) (v := .pointer (some ⟨bc', 0, none⟩)) rfl (by kernel_rfl) (by kernel_rfl) (by kernel_rfl) (fun _ _ _ h => h) (Or.inl ⟨by kernel_rfl, fun W h => Lif.ld_cache (.tmp 100) (by kernel_rfl) (by kernel_rfl) W h.p1⟩) hbd ?_
        try simp only [Act.put, List.setIfInBounds_toArray, List.set_cons_zero, List.set_cons_succ]
        refine wpAnyH_take (i := 11) (oi := { dst := some 102, op := Op.move (Operand.tmp 11), type := 3, pos := "law07.go:219", after := #[{ on := 19, ground := Ground.gcOnly Departure.lateStores }], guard := none }) (v := .int .i64 (n : Int)) rfl (by kernel_rfl) (by kernel_rfl) (by kernel_rfl) (fun _ _ _ h => h) (Or.inl ⟨by kernel_rfl, fun W h => (by first | kernel_rfl | go_simp)⟩) hbd ?_
        try simp only [Act.put, List.setIfInBounds_toArray, List.set_cons_zero, List.set_cons_succ]
        refine wpAnyH_take (i := 12) (oi := { dst := some 103, op := Op.nilCheck (Operand.tmp 101), type := 0, pos := "law07.go:219", after := #[{ on := 10, ground := Ground.data }, { on := 19, ground := Ground.gcOnly Departure.lateStores }], guard := none }) (v := .pointer (some ⟨bc', 0, none⟩)) rfl (by kernel_rfl) (by kernel_rfl) (by kernel_rfl) (fun _ _ _ h => h) (Or.inl ⟨by kernel_rfl, fun W h => (by first | kernel_rfl | go_simp)⟩) hbd ?_
        try simp only [Act.put, List.setIfInBounds_toArray, List.set_cons_zero, List.set_cons_succ]
        refine wpAnyH_take (i := 13) (oi := { dst := some 104, op := Op.fieldAddr 57 (Operand.tmp 103) 0, type := 0, pos := "law07.go:219", after := #[{ on := 12, ground := Ground.data }, { on := 19, ground := Ground.gcOnly Departure.lateStores }], guard := none }) (v := .pointer (some ⟨bc', 0, none⟩)) rfl (by kernel_rfl) (by kernel_rfl) (by kernel_rfl) (fun _ _ _ h => h) (Or.inl ⟨by kernel_rfl, fun W h => (by first | kernel_rfl | go_simp)⟩) hbd ?_
        try simp only [Act.put, List.setIfInBounds_toArray, List.set_cons_zero, List.set_cons_succ]
        refine wpAnyH_take (i := 14) (oi := { dst := some 105, op := Op.fieldAddr 44 (Operand.tmp 104) 0, type := 0, pos := "law07.go:219", after := #[{ on := 13, ground := Ground.data }, { on := 19, ground := Ground.gcOnly Departure.lateStores }], guard := none }) (v := .pointer (some ⟨bc', 0, none⟩)) rfl (by kernel_rfl) (by kernel_rfl) (by kernel_rfl) (fun _ _ _ h => h) (Or.inl ⟨by kernel_rfl, fun W h => (by first | kernel_rfl | go_simp)⟩) hbd ?_
        try simp only [Act.put, List.setIfInBounds_toArray, List.set_cons_zero, List.set_cons_succ]
        refine wpAnyH_take (i := 15) (oi := { dst := some 106, op := Op.indexAddr 35 (Operand.tmp 105) (Operand.tmp 102), type := 0, pos := "law07.go:219", after := #[{ on := 14, ground := Ground.data }, { on := 11, ground := Ground.data }, { on := 19, ground := Ground.gcOnly Departure.lateStores }], guard := none }) (v := .pointer (some ⟨bc', n * 5, none⟩)) rfl (by kernel_rfl) (by kernel_rfl) (by kernel_rfl) (fun _ _ _ h => h) (Or.inl ⟨by kernel_rfl, fun W h => Lif.ix_inos (.tmp 105) (.tmp 102) (by kernel_rfl) (by kernel_rfl) (by kernel_rfl) hn8 W⟩) hbd ?_
        try simp only [Act.put, List.setIfInBounds_toArray, List.set_cons_zero, List.set_cons_succ]
        refine wpAnyH_take (i := 16) (oi := { dst := some 107, op := Op.load 34 (Operand.tmp 106), type := 34, pos := "law07.go:219", after := #[{ on := 15, ground := Ground.data }, { on := 19, ground := Ground.gcOnly Departure.lateStores }], guard := none }) (v := .agg (inoC (Img.mend S.disk) n)) rfl (by kernel_rfl) (by kernel_rfl) (by kernel_rfl) (fun _ _ _ h => h) (Or.inl ⟨by kernel_rfl, fun W h => Lif.ld_some 34 (.tmp 106) (by kernel_rfl) _ _ _ (by kernel_rfl) W _ _ _ _ h.row ino_under rfl ino_cells5 (by rw [Array.size_append, zi2]; omega) ((Lif.app_ino zi2 hn8).trans (inoC_row hi2 hn8))⟩) hbd ?_
        try simp only [Act.put, List.setIfInBounds_toArray, List.set_cons_zero, List.set_cons_succ]
        have Y0 := By.start wr.drew
        have Y1 := hide (show By wr.drew (wr.drew.alloc (.cells inoZ 34)) ((wr.heap.size, inoZ, 34) :: []) from Y0.box inoZ 34)
        have Y2 := hide (show By wr.drew ((wr.drew.alloc (.cells inoZ 34)).alloc (.cells inoZ 34)) ((wr.heap.size + 1, inoZ, 34) :: (wr.heap.size, inoZ, 34) :: []) from by have := (unhide Y1).box inoZ 34; rw [show (wr.drew.alloc (.cells inoZ 34)).heap.size = wr.heap.size + 1 by simp] at this; exact this)
        have k1 := hide (hbd.below (unhide Y1).below)
        have k2 := hide (hbd.below (unhide Y2).below)
        refine wpAnyH_ready (rs := [17, 18]) (by kernel_rfl) (by simp) ?_
        refine AllReadyH.cons (o := { dst := some 12, op := Op.alloc 34, type := 0, pos := "law07.go:219", after := #[], guard := none }) rfl (fun K hK => ?_) (AllReadyH.cons (o := { dst := some 13, op := Op.alloc 34, type := 0, pos := "law07.go:219", after := #[], guard := none }) rfl (fun K hK => ?_) AllReadyH.nil)
        · rw [if_pos (by kernel_rfl)]
          go_simp
          refine hK.out _ _ (unhide k1) (fun h1 => ?_)
          clear hK K
          try simp only [Act.put, List.setIfInBounds_toArray, List.set_cons_zero, List.set_cons_succ]
          refine wpAnyH_ready (rs := [18]) (by kernel_rfl) (by simp) ?_
          refine AllReadyH.cons (o := { dst := some 13, op := Op.alloc 34, type := 0, pos := "law07.go:219", after := #[], guard := none }) rfl (fun K hK => ?_) AllReadyH.nil
          have Y3 := hide ((unhide Y2).mut1 (Mv.row' ((unhide Y2).row (wr.heap.size, inoZ, 34) (by simp)) (inoC S.disk n)))
          have k3 := hide (hbd.below (unhide Y3).below)
          have Y4 := hide ((unhide Y3).mut0 (Mv.row' ((unhide Y3).row (wr.heap.size + 1, inoZ, 34) (by simp)) (inoC (Img.mend S.disk) n)))
          have k4 := hide (hbd.below (unhide Y4).below)
          rw [if_pos (by kernel_rfl)]
          go_simp
          refine hK.out _ _ (unhide k2) (fun h2 => ?_)
          clear hK K
          try simp only [Act.put, List.setIfInBounds_toArray, List.set_cons_zero, List.set_cons_succ]
          refine wpAnyH_ready (rs := [19]) (by kernel_rfl) (by simp) ?_
          refine AllReadyH.cons (o := { dst := none, op := Op.store 34 (Operand.tmp 12) (Operand.tmp 94), type := 0, pos := "law07.go:219", after := #[{ on := 17, ground := Ground.data }, { on := 3, ground := Ground.data }, { on := 0, ground := Ground.phase }, { on := 1, ground := Ground.phase }, { on := 2, ground := Ground.phase }, { on := 3, ground := Ground.phase }, { on := 4, ground := Ground.textOnly Departure.lateStores }, { on := 5, ground := Ground.textOnly Departure.lateStores }, { on := 6, ground := Ground.textOnly Departure.lateStores }, { on := 7, ground := Ground.textOnly Departure.lateStores }, { on := 8, ground := Ground.textOnly Departure.lateStores }, { on := 9, ground := Ground.textOnly Departure.lateStores }, { on := 10, ground := Ground.textOnly Departure.lateStores }, { on := 11, ground := Ground.textOnly Departure.lateStores }, { on := 12, ground := Ground.textOnly Departure.lateStores }, { on := 13, ground := Ground.textOnly Departure.lateStores }, { on := 14, ground := Ground.textOnly Departure.lateStores }, { on := 15, ground := Ground.textOnly Departure.lateStores }, { on := 16, ground := Ground.textOnly Departure.lateStores }, { on := 17, ground := Ground.phase }, { on := 18, ground := Ground.phase }], guard := none }) rfl (fun K hK => ?_) AllReadyH.nil
          rw [if_pos (by kernel_rfl)]
          refine Op1.st_row0 34 (.tmp 12) (.tmp 94) (by kernel_rfl) (by kernel_rfl) (g := wr.heap.size) (cells := (inoC S.disk n)) (by kernel_rfl) (by kernel_rfl) (t := 34) (old := inoZ) ((unhide Y2).row (wr.heap.size, inoZ, 34) (by simp)) (inoC_info S.disk n) rfl (inoC_all S.disk n) ?_
          refine hK.out _ _ (unhide k3) (fun h3 => ?_)
          clear hK K
          try simp only [Act.put, List.setIfInBounds_toArray, List.set_cons_zero, List.set_cons_succ]
          refine wpAnyH_ready (rs := [20]) (by kernel_rfl) (by simp) ?_
          refine AllReadyH.cons (o := { dst := none, op := Op.store 34 (Operand.tmp 13) (Operand.tmp 107), type := 0, pos := "law07.go:219", after := #[{ on := 18, ground := Ground.data }, { on := 16, ground := Ground.data }, { on := 19, ground := Ground.chain }, { on := 0, ground := Ground.phase }, { on := 1, ground := Ground.phase }, { on := 2, ground := Ground.phase }, { on := 3, ground := Ground.phase }, { on := 4, ground := Ground.phase }, { on := 5, ground := Ground.phase }, { on := 6, ground := Ground.phase }, { on := 7, ground := Ground.phase }, { on := 8, ground := Ground.phase }, { on := 9, ground := Ground.phase }, { on := 10, ground := Ground.phase }, { on := 11, ground := Ground.phase }, { on := 12, ground := Ground.phase }, { on := 13, ground := Ground.phase }, { on := 14, ground := Ground.phase }, { on := 15, ground := Ground.phase }, { on := 16, ground := Ground.phase }, { on := 17, ground := Ground.phase }, { on := 18, ground := Ground.phase }, { on := 19, ground := Ground.phase }], guard := none }) rfl (fun K hK => ?_) AllReadyH.nil
          rw [if_pos (by kernel_rfl)]
          refine Op1.st_row0 34 (.tmp 13) (.tmp 107) (by kernel_rfl) (by kernel_rfl) (g := wr.heap.size + 1) (cells := (inoC (Img.mend S.disk) n)) (by kernel_rfl) (by kernel_rfl) (t := 34) (old := inoZ) ((unhide Y3).row (wr.heap.size + 1, inoZ, 34) (by simp)) (inoC_info (Img.mend S.disk) n) rfl (inoC_all (Img.mend S.disk) n) ?_
          refine hK.out _ _ (unhide k4) (fun h4 => ?_)
          clear hK K
          try simp only [Act.put, List.setIfInBounds_toArray, List.set_cons_zero, List.set_cons_succ]
          refine wpAnyH_done (by kernel_rfl) ?_ _
          go_wp2_with fail
          go_meet
          exact ⟨_, _, rfl, rfl, hide (show Below wr.heap.size wr _ from ((Below.refl _ wr).drew).trans (unhide Y4).below), hide (show _ from (unhide Y4).row (_, (inoC S.disk n), 34) (by simp)), hide (show _ from (unhide Y4).row (_, (inoC (Img.mend S.disk) n), 34) (by simp))⟩
        · have Y3 := hide ((unhide Y2).mut0 (Mv.row' ((unhide Y2).row (wr.heap.size + 1, inoZ, 34) (by simp)) (inoC S.disk n)))
          have k3 := hide (hbd.below (unhide Y3).below)
          have Y4 := hide ((unhide Y3).mut1 (Mv.row' ((unhide Y3).row (wr.heap.size, inoZ, 34) (by simp)) (inoC (Img.mend S.disk) n)))
          have k4 := hide (hbd.below (unhide Y4).below)
          rw [if_pos (by kernel_rfl)]
          go_simp
          refine hK.out _ _ (unhide k1) (fun h1 => ?_)
          clear hK K
          try simp only [Act.put, List.setIfInBounds_toArray, List.set_cons_zero, List.set_cons_succ]
          refine wpAnyH_ready (rs := [17]) (by kernel_rfl) (by simp) ?_
          refine AllReadyH.cons (o := { dst := some 12, op := Op.alloc 34, type := 0, pos := "law07.go:219", after := #[], guard := none }) rfl (fun K hK => ?_) AllReadyH.nil
          rw [if_pos (by kernel_rfl)]
          go_simp
          refine hK.out _ _ (unhide k2) (fun h2 => ?_)
          clear hK K
          try simp only [Act.put, List.setIfInBounds_toArray, List.set_cons_zero, List.set_cons_succ]
          refine wpAnyH_ready (rs := [19]) (by kernel_rfl) (by simp) ?_
          refine AllReadyH.cons (o := { dst := none, op := Op.store 34 (Operand.tmp 12) (Operand.tmp 94), type := 0, pos := "law07.go:219", after := #[{ on := 17, ground := Ground.data }, { on := 3, ground := Ground.data }, { on := 0, ground := Ground.phase }, { on := 1, ground := Ground.phase }, { on := 2, ground := Ground.phase }, { on := 3, ground := Ground.phase }, { on := 4, ground := Ground.textOnly Departure.lateStores }, { on := 5, ground := Ground.textOnly Departure.lateStores }, { on := 6, ground := Ground.textOnly Departure.lateStores }, { on := 7, ground := Ground.textOnly Departure.lateStores }, { on := 8, ground := Ground.textOnly Departure.lateStores }, { on := 9, ground := Ground.textOnly Departure.lateStores }, { on := 10, ground := Ground.textOnly Departure.lateStores }, { on := 11, ground := Ground.textOnly Departure.lateStores }, { on := 12, ground := Ground.textOnly Departure.lateStores }, { on := 13, ground := Ground.textOnly Departure.lateStores }, { on := 14, ground := Ground.textOnly Departure.lateStores }, { on := 15, ground := Ground.textOnly Departure.lateStores }, { on := 16, ground := Ground.textOnly Departure.lateStores }, { on := 17, ground := Ground.phase }, { on := 18, ground := Ground.phase }], guard := none }) rfl (fun K hK => ?_) AllReadyH.nil
          rw [if_pos (by kernel_rfl)]
          refine Op1.st_row0 34 (.tmp 12) (.tmp 94) (by kernel_rfl) (by kernel_rfl) (g := wr.heap.size + 1) (cells := (inoC S.disk n)) (by kernel_rfl) (by kernel_rfl) (t := 34) (old := inoZ) ((unhide Y2).row (wr.heap.size + 1, inoZ, 34) (by simp)) (inoC_info S.disk n) rfl (inoC_all S.disk n) ?_
          refine hK.out _ _ (unhide k3) (fun h3 => ?_)
          clear hK K
          try simp only [Act.put, List.setIfInBounds_toArray, List.set_cons_zero, List.set_cons_succ]
          refine wpAnyH_ready (rs := [20]) (by kernel_rfl) (by simp) ?_
          refine AllReadyH.cons (o := { dst := none, op := Op.store 34 (Operand.tmp 13) (Operand.tmp 107), type := 0, pos := "law07.go:219", after := #[{ on := 18, ground := Ground.data }, { on := 16, ground := Ground.data }, { on := 19, ground := Ground.chain }, { on := 0, ground := Ground.phase }, { on := 1, ground := Ground.phase }, { on := 2, ground := Ground.phase }, { on := 3, ground := Ground.phase }, { on := 4, ground := Ground.phase }, { on := 5, ground := Ground.phase }, { on := 6, ground := Ground.phase }, { on := 7, ground := Ground.phase }, { on := 8, ground := Ground.phase }, { on := 9, ground := Ground.phase }, { on := 10, ground := Ground.phase }, { on := 11, ground := Ground.phase }, { on := 12, ground := Ground.phase }, { on := 13, ground := Ground.phase }, { on := 14, ground := Ground.phase }, { on := 15, ground := Ground.phase }, { on := 16, ground := Ground.phase }, { on := 17, ground := Ground.phase }, { on := 18, ground := Ground.phase }, { on := 19, ground := Ground.phase }], guard := none }) rfl (fun K hK => ?_) AllReadyH.nil
          rw [if_pos (by kernel_rfl)]
          refine Op1.st_row0 34 (.tmp 13) (.tmp 107) (by kernel_rfl) (by kernel_rfl) (g := wr.heap.size) (cells := (inoC (Img.mend S.disk) n)) (by kernel_rfl) (by kernel_rfl) (t := 34) (old := inoZ) ((unhide Y3).row (wr.heap.size, inoZ, 34) (by simp)) (inoC_info (Img.mend S.disk) n) rfl (inoC_all (Img.mend S.disk) n) ?_
          refine hK.out _ _ (unhide k4) (fun h4 => ?_)
          clear hK K
          try simp only [Act.put, List.setIfInBounds_toArray, List.set_cons_zero, List.set_cons_succ]
          refine wpAnyH_done (by kernel_rfl) ?_ _
          go_wp2_with fail
          go_meet
          exact ⟨_, _, rfl, rfl, hide (show Below wr.heap.size wr _ from ((Below.refl _ wr).drew).trans (unhide Y4).below), hide (show _ from (unhide Y4).row (_, (inoC S.disk n), 34) (by simp)), hide (show _ from (unhide Y4).row (_, (inoC (Img.mend S.disk) n), 34) (by simp))⟩
      case rest =>
        obtain ⟨g1, g2, rfl, rfl, BC, R1, R2⟩ := hcut
        have HL2 := hide ((unhide HL).call (unhide BC))
        have HB2 := hide ((unhide HBK).below (unhide BC))
        clear HL HBK BC
        have RF := hide fun V (h : Lif.Bk bl bf' bc' g9 cs2 ds2 ds V) => refs_any g9 S.disk (n : Int) V (Sft.HasAt.img (hasAt_of h.box (o := 0) (by rw [zds]; omega) (by rw [Nat.zero_add, show 94 = ds.size from zds.symm]; simp) hds))
        have rf := unhide RF _ (unhide HB2)
        by_cases hr0 : S.disk.refs (n : Int) = 0
        case pos =>
          have ld := last_dead hn8 hr0
          rw [hr0] at rf
          have e0 := (Lif.inoC_cells (unhide R2)).1
          rw [ld] at e0
          go_wp2_with fail
          refine rf.mono ?_
          rintro e wq ⟨rfl, e9⟩
          rw [e9]
          clear e9 wq rf
          go_wp2_with fail
          go_roundw
          case rel => exact ⟨n + 1, by omega, by go_num, HL2, HB2⟩
          case measure => simp [intOf]; omega
        have LI := hide (last_is (unhide KC) hn8 hr0)
        obtain ⟨rfi, hrfi⟩ : ∃ i : Int, i = (S.disk.refs (n : Int) : Nat) := ⟨_, rfl⟩
        rw [← hrfi] at rf
        have r0 : (rfi == 0) = false := by simp; omega
        have LK := hide (show (Img.mend S.disk).links n = rfi from (unhide LI).links.trans hrfi.symm)
        have RF2 := hide fun V (h : Lif.Bk bl bf' bc' g9 cs2 ds2 ds V) => show Calls Tryz.prog 26 #[.pointer (some ⟨g9, 0, none⟩), .int .i64 (n : Int)] V fun e w' => e = .returned (.int .i64 rfi) ∧ w' = V by
          rw [hrfi]; exact unhide RF V h
        clear hrfi RF
        go_wp2_with fail
        refine rf.mono ?_
        rintro e wq ⟨rfl, e9⟩
        rw [e9]
        clear e9 wq rf
        go_upto_region 23 with fail
        have hb : Lif.Bk bl bf' bc' g9 cs2 ds2 ds wc.drew ∧ wc.drew.heap[g1]? = some (.cells (inoC S.disk n) 34) ∧ wc.drew.heap[g2]? = some (.cells (inoC (Img.mend S.disk) n) 34) := ⟨(unhide HB2).below (Below.refl _ wc).drew, unhide R1, unhide R2⟩
        have ns : (S.disk.stamp n != (Img.mend S.disk).stamp n) = false := by rw [(unhide LI).stamp]; simp
        have QP : ∀ W, (binOp .neq 32 (.agg #[.int .i64 (S.disk.part n 0), .int .i64 (S.disk.part n 1)]) (.agg #[.int .i64 ((Img.mend S.disk).part n 0), .int .i64 ((Img.mend S.disk).part n 1)])).run Tryz.prog W = .ok (.bool false) W := fun W => by
          rw [neqlParts, (unhide LI).p0, (unhide LI).p1]; simp
        have nk : ((Img.mend S.disk).links n != rfi) = false := by rw [unhide LK]; simp
        refine wp_region_held_drew (S := fun V => Lif.Bk bl bf' bc' g9 cs2 ds2 ds V ∧ V.heap[g1]? = some (.cells (inoC S.disk n) 34) ∧ V.heap[g2]? = some (.cells (inoC (Img.mend S.disk) n) 34)) (by kernel_rfl) (hb) (fun hS => ?_)
        refine wpAnyH_take (i := 0) (oi := { dst := some 113, op := Op.fieldAddr 34 (Operand.tmp 13) 0, type := 0, pos := "law07.go:226", after := #[], guard := none }) (v := .pointer (some ⟨g2, 0, none⟩)) rfl (by kernel_rfl) (by kernel_rfl) (by kernel_rfl) (fun _ _ _ h => h) (Or.inl ⟨by kernel_rfl, fun W h => (by first | kernel_rfl | go_simp)⟩) hb ?_
        try simp only [Act.put, List.setIfInBounds_toArray, List.set_cons_zero, List.set_cons_succ]
        refine wpAnyH_take (i := 1) (oi := { dst := some 114, op := Op.load 4 (Operand.tmp 113), type := 4, pos := "law07.go:226", after := #[{ on := 0, ground := Ground.data }], guard := none }) (v := .bool true) rfl (by kernel_rfl) (by kernel_rfl) (by kernel_rfl) (fun _ _ _ h => h) (Or.inl ⟨by kernel_rfl, fun W h => Lif.ld_bool (.tmp 113) (by kernel_rfl) (by kernel_rfl) W (by rw [(Lif.inoC_cells h.2.2).1, (unhide LI).live])⟩) hb ?_
        try simp only [Act.put, List.setIfInBounds_toArray, List.set_cons_zero, List.set_cons_succ]
        refine wpAnyH_take (i := 2) (oi := { dst := some 115, op := Op.unOp UnOp.not 4 (Operand.tmp 114), type := 4, pos := "law07.go:226", after := #[{ on := 1, ground := Ground.data }], guard := none }) (v := .bool false) rfl (by kernel_rfl) (by kernel_rfl) (by kernel_rfl) (fun _ _ _ h => h) (Or.inl ⟨by kernel_rfl, fun W h => (by first | kernel_rfl | go_simp)⟩) hb ?_
        try simp only [Act.put, List.setIfInBounds_toArray, List.set_cons_zero, List.set_cons_succ]
        refine wpAnyH_take (i := 3) (oi := { dst := some 116, op := Op.move (Operand.tmp 115), type := 4, pos := "law07.go:226", after := #[{ on := 2, ground := Ground.data }], guard := none }) (v := .bool false) rfl (by kernel_rfl) (by kernel_rfl) (by kernel_rfl) (fun _ _ _ h => h) (Or.inl ⟨by kernel_rfl, fun W h => (by first | kernel_rfl | go_simp)⟩) hb ?_
        try simp only [Act.put, List.setIfInBounds_toArray, List.set_cons_zero, List.set_cons_succ]
        refine wpAnyH_take (i := 4) (oi := { dst := some 117, op := Op.fieldAddr 34 (Operand.tmp 12) 1, type := 0, pos := "law07.go:226", after := #[{ on := 3, ground := Ground.guard }], guard := some (3, false) }) (v := .pointer (some ⟨g1, 1, none⟩)) rfl (by kernel_rfl) (by kernel_rfl) (by kernel_rfl) (fun _ _ _ h => h) (Or.inl ⟨by kernel_rfl, fun W h => (by first | kernel_rfl | go_simp)⟩) hb ?_
        try simp only [Act.put, List.setIfInBounds_toArray, List.set_cons_zero, List.set_cons_succ]
        refine wpAnyH_take (i := 5) (oi := { dst := some 118, op := Op.load 3 (Operand.tmp 117), type := 3, pos := "law07.go:226", after := #[{ on := 4, ground := Ground.data }, { on := 3, ground := Ground.guard }], guard := some (3, false) }) (v := .int .i64 (S.disk.stamp n)) rfl (by kernel_rfl) (by kernel_rfl) (by kernel_rfl) (fun _ _ _ h => h) (Or.inl ⟨by kernel_rfl, fun W h => Lif.ld_int (.tmp 117) (by kernel_rfl) (by kernel_rfl) W (Lif.inoC_cells h.2.1).2.1⟩) hb ?_
        try simp only [Act.put, List.setIfInBounds_toArray, List.set_cons_zero, List.set_cons_succ]
        refine wpAnyH_take (i := 6) (oi := { dst := some 119, op := Op.fieldAddr 34 (Operand.tmp 13) 1, type := 0, pos := "law07.go:226", after := #[{ on := 3, ground := Ground.guard }], guard := some (3, false) }) (v := .pointer (some ⟨g2, 1, none⟩)) rfl (by kernel_rfl) (by kernel_rfl) (by kernel_rfl) (fun _ _ _ h => h) (Or.inl ⟨by kernel_rfl, fun W h => (by first | kernel_rfl | go_simp)⟩) hb ?_
        try simp only [Act.put, List.setIfInBounds_toArray, List.set_cons_zero, List.set_cons_succ]
        refine wpAnyH_take (i := 7) (oi := { dst := some 120, op := Op.load 3 (Operand.tmp 119), type := 3, pos := "law07.go:226", after := #[{ on := 6, ground := Ground.data }, { on := 3, ground := Ground.guard }], guard := some (3, false) }) (v := .int .i64 ((Img.mend S.disk).stamp n)) rfl (by kernel_rfl) (by kernel_rfl) (by kernel_rfl) (fun _ _ _ h => h) (Or.inl ⟨by kernel_rfl, fun W h => Lif.ld_int (.tmp 119) (by kernel_rfl) (by kernel_rfl) W (Lif.inoC_cells h.2.2).2.1⟩) hb ?_
        try simp only [Act.put, List.setIfInBounds_toArray, List.set_cons_zero, List.set_cons_succ]
        refine wpAnyH_take (i := 8) (oi := { dst := some 121, op := Op.binOp BinOp.neq 3 (Operand.tmp 118) (Operand.tmp 120) 3, type := 4, pos := "law07.go:226", after := #[{ on := 5, ground := Ground.data }, { on := 7, ground := Ground.data }, { on := 3, ground := Ground.guard }], guard := some (3, false) }) (v := .bool false) rfl (by kernel_rfl) (by kernel_rfl) (by kernel_rfl) (fun _ _ _ h => h) (Or.inl ⟨by kernel_rfl, fun W h => Lif.neqf (.tmp 118) (.tmp 120) (by kernel_rfl) (by kernel_rfl) (by kernel_rfl) ns W⟩) hb ?_
        try simp only [Act.put, List.setIfInBounds_toArray, List.set_cons_zero, List.set_cons_succ]
        refine wpAnyH_take (i := 9) (oi := { dst := some 122, op := Op.pick (Operand.tmp 116) (Operand.const (Value.bool true)) (Operand.tmp 121), type := 4, pos := "law07.go:226", after := #[{ on := 3, ground := Ground.data }, { on := 8, ground := Ground.data }], guard := none }) (v := .bool false) rfl (by kernel_rfl) (by kernel_rfl) (by kernel_rfl) (fun _ _ _ h => h) (Or.inl ⟨by kernel_rfl, fun W h => (by first | kernel_rfl | go_simp)⟩) hb ?_
        try simp only [Act.put, List.setIfInBounds_toArray, List.set_cons_zero, List.set_cons_succ]
        refine wpAnyH_take (i := 10) (oi := { dst := some 123, op := Op.move (Operand.tmp 122), type := 4, pos := "law07.go:226", after := #[{ on := 9, ground := Ground.data }, { on := 3, ground := Ground.chain }], guard := none }) (v := .bool false) rfl (by kernel_rfl) (by kernel_rfl) (by kernel_rfl) (fun _ _ _ h => h) (Or.inl ⟨by kernel_rfl, fun W h => (by first | kernel_rfl | go_simp)⟩) hb ?_
        try simp only [Act.put, List.setIfInBounds_toArray, List.set_cons_zero, List.set_cons_succ]
        refine wpAnyH_take (i := 11) (oi := { dst := some 124, op := Op.fieldAddr 34 (Operand.tmp 12) 3, type := 0, pos := "law07.go:226", after := #[{ on := 10, ground := Ground.guard }], guard := some (10, false) }) (v := .pointer (some ⟨g1, 3, none⟩)) rfl (by kernel_rfl) (by kernel_rfl) (by kernel_rfl) (fun _ _ _ h => h) (Or.inl ⟨by kernel_rfl, fun W h => (by first | kernel_rfl | go_simp)⟩) hb ?_
        try simp only [Act.put, List.setIfInBounds_toArray, List.set_cons_zero, List.set_cons_succ]
        refine wpAnyH_take (i := 12) (oi := { dst := some 125, op := Op.load 32 (Operand.tmp 124), type := 32, pos := "law07.go:226", after := #[{ on := 11, ground := Ground.data }, { on := 10, ground := Ground.guard }], guard := some (10, false) }) (v := .agg #[.int .i64 (S.disk.part n 0), .int .i64 (S.disk.part n 1)]) rfl (by kernel_rfl) (by kernel_rfl) (by kernel_rfl) (fun _ _ _ h => h) (Or.inl ⟨by kernel_rfl, fun W h => Lif.ld_parts (.tmp 124) (by kernel_rfl) (by kernel_rfl) W (Lif.inoC_cells h.2.1).2.2.2.1 (Lif.inoC_cells h.2.1).2.2.2.2⟩) hb ?_
        try simp only [Act.put, List.setIfInBounds_toArray, List.set_cons_zero, List.set_cons_succ]
        refine wpAnyH_take (i := 13) (oi := { dst := some 126, op := Op.fieldAddr 34 (Operand.tmp 13) 3, type := 0, pos := "law07.go:226", after := #[{ on := 10, ground := Ground.guard }], guard := some (10, false) }) (v := .pointer (some ⟨g2, 3, none⟩)) rfl (by kernel_rfl) (by kernel_rfl) (by kernel_rfl) (fun _ _ _ h => h) (Or.inl ⟨by kernel_rfl, fun W h => (by first | kernel_rfl | go_simp)⟩) hb ?_
        try simp only [Act.put, List.setIfInBounds_toArray, List.set_cons_zero, List.set_cons_succ]
        refine wpAnyH_take (i := 14) (oi := { dst := some 127, op := Op.load 32 (Operand.tmp 126), type := 32, pos := "law07.go:226", after := #[{ on := 13, ground := Ground.data }, { on := 10, ground := Ground.guard }], guard := some (10, false) }) (v := .agg #[.int .i64 ((Img.mend S.disk).part n 0), .int .i64 ((Img.mend S.disk).part n 1)]) rfl (by kernel_rfl) (by kernel_rfl) (by kernel_rfl) (fun _ _ _ h => h) (Or.inl ⟨by kernel_rfl, fun W h => Lif.ld_parts (.tmp 126) (by kernel_rfl) (by kernel_rfl) W (Lif.inoC_cells h.2.2).2.2.2.1 (Lif.inoC_cells h.2.2).2.2.2.2⟩) hb ?_
        try simp only [Act.put, List.setIfInBounds_toArray, List.set_cons_zero, List.set_cons_succ]
        refine wpAnyH_take (i := 15) (oi := { dst := some 128, op := Op.binOp BinOp.neq 32 (Operand.tmp 125) (Operand.tmp 127) 32, type := 4, pos := "law07.go:226", after := #[{ on := 12, ground := Ground.data }, { on := 14, ground := Ground.data }, { on := 10, ground := Ground.guard }], guard := some (10, false) }) (v := .bool false) rfl (by kernel_rfl) (by kernel_rfl) (by kernel_rfl) (fun _ _ _ h => h) (Or.inl ⟨by kernel_rfl, fun W h => run_exec_nev 32 32 (.tmp 125) (.tmp 127) (by kernel_rfl) _ _ (by kernel_rfl) (by kernel_rfl) false (by kernel_rfl) QP W⟩) hb ?_
        try simp only [Act.put, List.setIfInBounds_toArray, List.set_cons_zero, List.set_cons_succ]
        refine wpAnyH_take (i := 16) (oi := { dst := some 129, op := Op.pick (Operand.tmp 123) (Operand.const (Value.bool true)) (Operand.tmp 128), type := 4, pos := "law07.go:226", after := #[{ on := 10, ground := Ground.data }, { on := 15, ground := Ground.data }], guard := none }) (v := .bool false) rfl (by kernel_rfl) (by kernel_rfl) (by kernel_rfl) (fun _ _ _ h => h) (Or.inl ⟨by kernel_rfl, fun W h => (by first | kernel_rfl | go_simp)⟩) hb ?_
        try simp only [Act.put, List.setIfInBounds_toArray, List.set_cons_zero, List.set_cons_succ]
        refine wpAnyH_take (i := 17) (oi := { dst := some 130, op := Op.move (Operand.tmp 129), type := 4, pos := "law07.go:226", after := #[{ on := 16, ground := Ground.data }, { on := 10, ground := Ground.chain }], guard := none }) (v := .bool false) rfl (by kernel_rfl) (by kernel_rfl) (by kernel_rfl) (fun _ _ _ h => h) (Or.inl ⟨by kernel_rfl, fun W h => (by first | kernel_rfl | go_simp)⟩) hb ?_
        try simp only [Act.put, List.setIfInBounds_toArray, List.set_cons_zero, List.set_cons_succ]
        refine wpAnyH_take (i := 18) (oi := { dst := some 131, op := Op.fieldAddr 34 (Operand.tmp 13) 2, type := 0, pos := "law07.go:226", after := #[{ on := 17, ground := Ground.guard }], guard := some (17, false) }) (v := .pointer (some ⟨g2, 2, none⟩)) rfl (by kernel_rfl) (by kernel_rfl) (by kernel_rfl) (fun _ _ _ h => h) (Or.inl ⟨by kernel_rfl, fun W h => (by first | kernel_rfl | go_simp)⟩) hb ?_
        try simp only [Act.put, List.setIfInBounds_toArray, List.set_cons_zero, List.set_cons_succ]
        refine wpAnyH_take (i := 19) (oi := { dst := some 132, op := Op.load 3 (Operand.tmp 131), type := 3, pos := "law07.go:226", after := #[{ on := 18, ground := Ground.data }, { on := 17, ground := Ground.guard }], guard := some (17, false) }) (v := .int .i64 ((Img.mend S.disk).links n)) rfl (by kernel_rfl) (by kernel_rfl) (by kernel_rfl) (fun _ _ _ h => h) (Or.inl ⟨by kernel_rfl, fun W h => Lif.ld_int (.tmp 131) (by kernel_rfl) (by kernel_rfl) W (Lif.inoC_cells h.2.2).2.2.1⟩) hb ?_
        try simp only [Act.put, List.setIfInBounds_toArray, List.set_cons_zero, List.set_cons_succ]
        refine wpAnyH_take (i := 20) (oi := { dst := some 133, op := Op.move (Operand.tmp 11), type := 3, pos := "law07.go:226", after := #[{ on := 17, ground := Ground.guard }], guard := some (17, false) }) (v := .int .i64 (n : Int)) rfl (by kernel_rfl) (by kernel_rfl) (by kernel_rfl) (fun _ _ _ h => h) (Or.inl ⟨by kernel_rfl, fun W h => (by first | kernel_rfl | go_simp)⟩) hb ?_
        try simp only [Act.put, List.setIfInBounds_toArray, List.set_cons_zero, List.set_cons_succ]
        refine wpAnyH_ready (rs := [21]) (by kernel_rfl) (by simp) ?_
        refine AllReadyH.cons (o := { dst := some 134, op := Op.call { callee := Callee.value (Operand.func 26), args := #[Operand.tmp 9, Operand.tmp 133], argTypes := #[64, 3] }, type := 3, pos := "law07.go:226", after := #[{ on := 20, ground := Ground.data }, { on := 17, ground := Ground.chain }, { on := 17, ground := Ground.guard }], guard := some (17, false) }) rfl (fun K hK => ?_) AllReadyH.nil
        rw [if_pos (by kernel_rfl)]
        go_simp
        refine (unhide RF2 _ hb.1).mono ?_
        rintro e wq ⟨rfl, e9⟩
        rw [e9]
        clear e9 wq
        go_wp2_with fail
        refine hK.out _ _ (hb) (fun hS3 => ?_)
        clear hK K
        try simp only [Act.put, List.setIfInBounds_toArray, List.set_cons_zero, List.set_cons_succ]
        refine wpAnyH_take (i := 22) (oi := { dst := some 135, op := Op.binOp BinOp.neq 3 (Operand.tmp 132) (Operand.tmp 134) 3, type := 4, pos := "law07.go:226", after := #[{ on := 19, ground := Ground.data }, { on := 21, ground := Ground.data }, { on := 17, ground := Ground.guard }], guard := some (17, false) }) (v := .bool false) rfl (by kernel_rfl) (by kernel_rfl) (by kernel_rfl) (fun _ _ _ h => h) (Or.inl ⟨by kernel_rfl, fun W h => Lif.neqf (.tmp 132) (.tmp 134) (by kernel_rfl) (by kernel_rfl) (by kernel_rfl) nk W⟩) hS3 ?_
        try simp only [Act.put, List.setIfInBounds_toArray, List.set_cons_zero, List.set_cons_succ]
        refine wpAnyH_take (i := 23) (oi := { dst := some 136, op := Op.pick (Operand.tmp 130) (Operand.const (Value.bool true)) (Operand.tmp 135), type := 4, pos := "law07.go:226", after := #[{ on := 17, ground := Ground.data }, { on := 22, ground := Ground.data }], guard := none }) (v := .bool false) rfl (by kernel_rfl) (by kernel_rfl) (by kernel_rfl) (fun _ _ _ h => h) (Or.inl ⟨by kernel_rfl, fun W h => (by first | kernel_rfl | go_simp)⟩) hS3 ?_
        try simp only [Act.put, List.setIfInBounds_toArray, List.set_cons_zero, List.set_cons_succ]
        refine wpAnyH_done (by kernel_rfl) ?_ _
        clear hS3 hS QP ns nk RF2
        have HL3 := hide ((unhide HL2).call (Below.refl _ wc).drew)
        have HB3 := hide hb.1
        have R3 := hide hb.2.2
        clear hb HL2 HB2 R1 R2
        go_wp2_with fail
        go_loopw [14] (fun i wr => ∃ p : Nat, p ≤ 2 ∧ i = .int .i64 p ∧ Hid (Lo w bl bf' bc' S.crash wr) ∧ Hid (Lif.Bk bl bf' bc' g9 cs2 ds2 ds wr) ∧ Hid (wr.heap[g2]? = some (.cells (inoC (Img.mend S.disk) n) 34))) (fun i _ => 2 - (intOf i).toNat)
        case atStart => exact ⟨0, Nat.zero_le _, rfl, HL3, HB3, R3⟩
        case round =>
          clear HL3 HB3 R3
          obtain ⟨p, hp, rfl, HL4, HB4, R4⟩ := hrel
          by_cases hp2 : p < 2
          case neg =>
            have t2 : decide ((p : Int) < 2) = false := by simp; omega
            go_wp2_with fail
            go_roundw
            case rel => exact ⟨n + 1, by omega, by go_num, HL4, HB4⟩
            case measure => simp [intOf]; omega
          have t2 : decide ((p : Int) < 2) = true := by simp; omega
          have jp : (p : Int) < 2 := by omega
          have cp : wr.cell? ⟨g2, 3 + p, none⟩ = some (.int .i64 ((Img.mend S.disk).part n p)) := by
            have := Lif.inoC_cells (unhide R4)
            match p, hp2 with
            | 0, _ => exact this.2.2.2.1
            | 1, _ => exact this.2.2.2.2
          have HL5 := hide ((unhide HL4).call (Below.refl _ wr).drew)
          have hb5 : Lif.Bk bl bf' bc' g9 cs2 ds2 ds wr.drew := (unhide HB4).below (Below.refl _ wr).drew
          have HB5 := hide hb5
          have R5 : Hid (wr.drew.heap[g2]? = some (.cells (inoC (Img.mend S.disk) n) 34)) := R4
          have dcase := (unhide LI).neg p hp2
          have ddata := hide fun y => (unhide LI).data p y hp2
          generalize (Img.mend S.disk).part n p = yv at cp dcase ddata
          rcases dcase with hneg | ⟨y, rfl⟩
          · have y0 : decide (0 ≤ yv) = false := by simp; omega
            go_upto_region 29 with fail
            refine wp_region_held_drew (S := Lif.Bk bl bf' bc' g9 cs2 ds2 ds) (by kernel_rfl) (hb5) (fun hS => ?_)
            refine wpAnyH_take (i := 0) (oi := { dst := some 145, op := Op.move (Operand.tmp 15), type := 3, pos := "law07.go:230", after := #[], guard := none }) (v := .int .i64 yv) rfl (by kernel_rfl) (by kernel_rfl) (by kernel_rfl) (fun _ _ _ h => h) (Or.inl ⟨by kernel_rfl, fun W h => (by first | kernel_rfl | go_simp)⟩) hb5 ?_
            try simp only [Act.put, List.setIfInBounds_toArray, List.set_cons_zero, List.set_cons_succ]
            refine wpAnyH_take (i := 1) (oi := { dst := some 146, op := Op.binOp BinOp.geq 3 (Operand.tmp 145) (Operand.const (Value.int IntKind.i64 0)) 3, type := 4, pos := "law07.go:230", after := #[{ on := 0, ground := Ground.data }], guard := none }) (v := .bool false) rfl (by kernel_rfl) (by kernel_rfl) (by kernel_rfl) (fun _ _ _ h => h) (Or.inl ⟨by kernel_rfl, fun W h => Lif.geq0 (.tmp 145) (by kernel_rfl) (by kernel_rfl) (by kernel_rfl) y0 W⟩) hb5 ?_
            try simp only [Act.put, List.setIfInBounds_toArray, List.set_cons_zero, List.set_cons_succ]
            refine wpAnyH_take (i := 2) (oi := { dst := some 147, op := Op.move (Operand.tmp 146), type := 4, pos := "law07.go:230", after := #[{ on := 1, ground := Ground.data }], guard := none }) (v := .bool false) rfl (by kernel_rfl) (by kernel_rfl) (by kernel_rfl) (fun _ _ _ h => h) (Or.inl ⟨by kernel_rfl, fun W h => (by first | kernel_rfl | go_simp)⟩) hb5 ?_
            try simp only [Act.put, List.setIfInBounds_toArray, List.set_cons_zero, List.set_cons_succ]
            refine wpAnyH_take (i := 3) (oi := { dst := some 148, op := Op.move (Operand.tmp 15), type := 3, pos := "law07.go:230", after := #[{ on := 2, ground := Ground.guard }], guard := some (2, true) }) (v := undef) rfl (by kernel_rfl) (by kernel_rfl) (by kernel_rfl) (fun _ _ _ h => h) (Or.inr ⟨by kernel_rfl, rfl⟩) hb5 ?_
            try simp only [Act.put, List.setIfInBounds_toArray, List.set_cons_zero, List.set_cons_succ]
            refine wpAnyH_take (i := 4) (oi := { dst := some 149, op := Op.binOp BinOp.geq 3 (Operand.tmp 148) (Operand.const (Value.int IntKind.i64 9)) 3, type := 4, pos := "law07.go:230", after := #[{ on := 3, ground := Ground.data }, { on := 2, ground := Ground.guard }], guard := some (2, true) }) (v := undef) rfl (by kernel_rfl) (by kernel_rfl) (by kernel_rfl) (fun _ _ _ h => h) (Or.inr ⟨by kernel_rfl, rfl⟩) hb5 ?_
            try simp only [Act.put, List.setIfInBounds_toArray, List.set_cons_zero, List.set_cons_succ]
            refine wpAnyH_take (i := 5) (oi := { dst := some 150, op := Op.move (Operand.tmp 149), type := 4, pos := "law07.go:230", after := #[{ on := 4, ground := Ground.data }, { on := 2, ground := Ground.chain }, { on := 2, ground := Ground.guard }], guard := some (2, true) }) (v := undef) rfl (by kernel_rfl) (by kernel_rfl) (by kernel_rfl) (fun _ _ _ h => h) (Or.inr ⟨by kernel_rfl, rfl⟩) hb5 ?_
            try simp only [Act.put, List.setIfInBounds_toArray, List.set_cons_zero, List.set_cons_succ]
            refine wpAnyH_take (i := 6) (oi := { dst := some 151, op := Op.move (Operand.tmp 7), type := 25, pos := "law07.go:230", after := #[{ on := 5, ground := Ground.guard }], guard := some (5, false) }) (v := undef) rfl (by kernel_rfl) (by kernel_rfl) (by kernel_rfl) (fun _ _ _ h => h) (Or.inr ⟨by kernel_rfl, rfl⟩) hb5 ?_
            try simp only [Act.put, List.setIfInBounds_toArray, List.set_cons_zero, List.set_cons_succ]
            refine wpAnyH_take (i := 7) (oi := { dst := some 152, op := Op.nilCheck (Operand.tmp 151), type := 0, pos := "law07.go:230", after := #[{ on := 6, ground := Ground.data }, { on := 5, ground := Ground.guard }], guard := some (5, false) }) (v := undef) rfl (by kernel_rfl) (by kernel_rfl) (by kernel_rfl) (fun _ _ _ h => h) (Or.inr ⟨by kernel_rfl, rfl⟩) hb5 ?_
            try simp only [Act.put, List.setIfInBounds_toArray, List.set_cons_zero, List.set_cons_succ]
            refine wpAnyH_take (i := 8) (oi := { dst := some 153, op := Op.fieldAddr 50 (Operand.tmp 152) 0, type := 0, pos := "law07.go:230", after := #[{ on := 7, ground := Ground.data }, { on := 5, ground := Ground.guard }], guard := some (5, false) }) (v := undef) rfl (by kernel_rfl) (by kernel_rfl) (by kernel_rfl) (fun _ _ _ h => h) (Or.inr ⟨by kernel_rfl, rfl⟩) hb5 ?_
            try simp only [Act.put, List.setIfInBounds_toArray, List.set_cons_zero, List.set_cons_succ]
            refine wpAnyH_take (i := 9) (oi := { dst := some 154, op := Op.load 46 (Operand.tmp 153), type := 46, pos := "law07.go:230", after := #[{ on := 8, ground := Ground.data }, { on := 5, ground := Ground.guard }], guard := some (5, false) }) (v := undef) rfl (by kernel_rfl) (by kernel_rfl) (by kernel_rfl) (fun _ _ _ h => h) (Or.inr ⟨by kernel_rfl, rfl⟩) hb5 ?_
            try simp only [Act.put, List.setIfInBounds_toArray, List.set_cons_zero, List.set_cons_succ]
            refine wpAnyH_take (i := 10) (oi := { dst := some 155, op := Op.nilCheck (Operand.tmp 154), type := 0, pos := "law07.go:230", after := #[{ on := 9, ground := Ground.data }, { on := 5, ground := Ground.guard }], guard := some (5, false) }) (v := undef) rfl (by kernel_rfl) (by kernel_rfl) (by kernel_rfl) (fun _ _ _ h => h) (Or.inr ⟨by kernel_rfl, rfl⟩) hb5 ?_
            try simp only [Act.put, List.setIfInBounds_toArray, List.set_cons_zero, List.set_cons_succ]
            refine wpAnyH_take (i := 11) (oi := { dst := some 156, op := Op.fieldAddr 53 (Operand.tmp 155) 0, type := 0, pos := "law07.go:230", after := #[{ on := 10, ground := Ground.data }, { on := 5, ground := Ground.guard }], guard := some (5, false) }) (v := undef) rfl (by kernel_rfl) (by kernel_rfl) (by kernel_rfl) (fun _ _ _ h => h) (Or.inr ⟨by kernel_rfl, rfl⟩) hb5 ?_
            try simp only [Act.put, List.setIfInBounds_toArray, List.set_cons_zero, List.set_cons_succ]
            refine wpAnyH_take (i := 12) (oi := { dst := some 157, op := Op.load 51 (Operand.tmp 156), type := 51, pos := "law07.go:230", after := #[{ on := 11, ground := Ground.data }, { on := 5, ground := Ground.guard }], guard := some (5, false) }) (v := undef) rfl (by kernel_rfl) (by kernel_rfl) (by kernel_rfl) (fun _ _ _ h => h) (Or.inr ⟨by kernel_rfl, rfl⟩) hb5 ?_
            try simp only [Act.put, List.setIfInBounds_toArray, List.set_cons_zero, List.set_cons_succ]
            refine wpAnyH_take (i := 13) (oi := { dst := some 158, op := Op.move (Operand.tmp 15), type := 3, pos := "law07.go:230", after := #[{ on := 5, ground := Ground.guard }], guard := some (5, false) }) (v := undef) rfl (by kernel_rfl) (by kernel_rfl) (by kernel_rfl) (fun _ _ _ h => h) (Or.inr ⟨by kernel_rfl, rfl⟩) hb5 ?_
            try simp only [Act.put, List.setIfInBounds_toArray, List.set_cons_zero, List.set_cons_succ]
            refine wpAnyH_take (i := 14) (oi := { dst := some 159, op := Op.nilCheck (Operand.tmp 157), type := 0, pos := "law07.go:230", after := #[{ on := 12, ground := Ground.data }, { on := 5, ground := Ground.guard }], guard := some (5, false) }) (v := undef) rfl (by kernel_rfl) (by kernel_rfl) (by kernel_rfl) (fun _ _ _ h => h) (Or.inr ⟨by kernel_rfl, rfl⟩) hb5 ?_
            try simp only [Act.put, List.setIfInBounds_toArray, List.set_cons_zero, List.set_cons_succ]
            refine wpAnyH_take (i := 15) (oi := { dst := some 160, op := Op.fieldAddr 57 (Operand.tmp 159) 0, type := 0, pos := "law07.go:230", after := #[{ on := 14, ground := Ground.data }, { on := 5, ground := Ground.guard }], guard := some (5, false) }) (v := undef) rfl (by kernel_rfl) (by kernel_rfl) (by kernel_rfl) (fun _ _ _ h => h) (Or.inr ⟨by kernel_rfl, rfl⟩) hb5 ?_
            try simp only [Act.put, List.setIfInBounds_toArray, List.set_cons_zero, List.set_cons_succ]
            refine wpAnyH_take (i := 16) (oi := { dst := some 161, op := Op.fieldAddr 44 (Operand.tmp 160) 2, type := 0, pos := "law07.go:230", after := #[{ on := 15, ground := Ground.data }, { on := 5, ground := Ground.guard }], guard := some (5, false) }) (v := undef) rfl (by kernel_rfl) (by kernel_rfl) (by kernel_rfl) (fun _ _ _ h => h) (Or.inr ⟨by kernel_rfl, rfl⟩) hb5 ?_
            try simp only [Act.put, List.setIfInBounds_toArray, List.set_cons_zero, List.set_cons_succ]
            refine wpAnyH_take (i := 17) (oi := { dst := some 162, op := Op.indexAddr 42 (Operand.tmp 161) (Operand.tmp 158), type := 0, pos := "law07.go:230", after := #[{ on := 16, ground := Ground.data }, { on := 13, ground := Ground.data }, { on := 5, ground := Ground.guard }], guard := some (5, false) }) (v := undef) rfl (by kernel_rfl) (by kernel_rfl) (by kernel_rfl) (fun _ _ _ h => h) (Or.inr ⟨by kernel_rfl, rfl⟩) hb5 ?_
            try simp only [Act.put, List.setIfInBounds_toArray, List.set_cons_zero, List.set_cons_succ]
            refine wpAnyH_take (i := 18) (oi := { dst := some 163, op := Op.load 41 (Operand.tmp 162), type := 41, pos := "law07.go:230", after := #[{ on := 17, ground := Ground.data }, { on := 5, ground := Ground.guard }], guard := some (5, false) }) (v := undef) rfl (by kernel_rfl) (by kernel_rfl) (by kernel_rfl) (fun _ _ _ h => h) (Or.inr ⟨by kernel_rfl, rfl⟩) hb5 ?_
            try simp only [Act.put, List.setIfInBounds_toArray, List.set_cons_zero, List.set_cons_succ]
            refine wpAnyH_take (i := 19) (oi := { dst := some 164, op := Op.move (Operand.tmp 15), type := 3, pos := "law07.go:230", after := #[{ on := 5, ground := Ground.guard }], guard := some (5, false) }) (v := undef) rfl (by kernel_rfl) (by kernel_rfl) (by kernel_rfl) (fun _ _ _ h => h) (Or.inr ⟨by kernel_rfl, rfl⟩) hb5 ?_
            try simp only [Act.put, List.setIfInBounds_toArray, List.set_cons_zero, List.set_cons_succ]
            refine wpAnyH_take (i := 20) (oi := { dst := some 165, op := Op.fieldAddr 44 (Operand.tmp 9) 2, type := 0, pos := "law07.go:230", after := #[{ on := 5, ground := Ground.guard }], guard := some (5, false) }) (v := undef) rfl (by kernel_rfl) (by kernel_rfl) (by kernel_rfl) (fun _ _ _ h => h) (Or.inr ⟨by kernel_rfl, rfl⟩) hb5 ?_
            try simp only [Act.put, List.setIfInBounds_toArray, List.set_cons_zero, List.set_cons_succ]
            refine wpAnyH_take (i := 21) (oi := { dst := some 166, op := Op.indexAddr 42 (Operand.tmp 165) (Operand.tmp 164), type := 0, pos := "law07.go:230", after := #[{ on := 20, ground := Ground.data }, { on := 19, ground := Ground.data }, { on := 5, ground := Ground.guard }], guard := some (5, false) }) (v := undef) rfl (by kernel_rfl) (by kernel_rfl) (by kernel_rfl) (fun _ _ _ h => h) (Or.inr ⟨by kernel_rfl, rfl⟩) hb5 ?_
            try simp only [Act.put, List.setIfInBounds_toArray, List.set_cons_zero, List.set_cons_succ]
            refine wpAnyH_take (i := 22) (oi := { dst := some 167, op := Op.load 41 (Operand.tmp 166), type := 41, pos := "law07.go:230", after := #[{ on := 21, ground := Ground.data }, { on := 5, ground := Ground.guard }], guard := some (5, false) }) (v := undef) rfl (by kernel_rfl) (by kernel_rfl) (by kernel_rfl) (fun _ _ _ h => h) (Or.inr ⟨by kernel_rfl, rfl⟩) hb5 ?_
            try simp only [Act.put, List.setIfInBounds_toArray, List.set_cons_zero, List.set_cons_succ]
            refine wpAnyH_take (i := 23) (oi := { dst := some 168, op := Op.binOp BinOp.neq 41 (Operand.tmp 163) (Operand.tmp 167) 41, type := 4, pos := "law07.go:230", after := #[{ on := 18, ground := Ground.data }, { on := 22, ground := Ground.data }, { on := 5, ground := Ground.guard }], guard := some (5, false) }) (v := undef) rfl (by kernel_rfl) (by kernel_rfl) (by kernel_rfl) (fun _ _ _ h => h) (Or.inr ⟨by kernel_rfl, rfl⟩) hb5 ?_
            try simp only [Act.put, List.setIfInBounds_toArray, List.set_cons_zero, List.set_cons_succ]
            refine wpAnyH_take (i := 24) (oi := { dst := some 169, op := Op.pick (Operand.tmp 150) (Operand.const (Value.bool true)) (Operand.tmp 168), type := 4, pos := "law07.go:230", after := #[{ on := 5, ground := Ground.data }, { on := 23, ground := Ground.data }, { on := 2, ground := Ground.guard }], guard := some (2, true) }) (v := undef) rfl (by kernel_rfl) (by kernel_rfl) (by kernel_rfl) (fun _ _ _ h => h) (Or.inr ⟨by kernel_rfl, rfl⟩) hb5 ?_
            try simp only [Act.put, List.setIfInBounds_toArray, List.set_cons_zero, List.set_cons_succ]
            refine wpAnyH_take (i := 25) (oi := { dst := some 170, op := Op.pick (Operand.tmp 147) (Operand.tmp 169) (Operand.const (Value.bool false)), type := 4, pos := "law07.go:230", after := #[{ on := 2, ground := Ground.data }, { on := 24, ground := Ground.data }], guard := none }) (v := .bool false) rfl (by kernel_rfl) (by kernel_rfl) (by kernel_rfl) (fun _ _ _ h => h) (Or.inl ⟨by kernel_rfl, fun W h => (by first | kernel_rfl | go_simp)⟩) hb5 ?_
            try simp only [Act.put, List.setIfInBounds_toArray, List.set_cons_zero, List.set_cons_succ]
            refine wpAnyH_done (by kernel_rfl) ?_ _
            clear hS
            go_wp2_with fail
            go_roundw
            case rel => exact ⟨p + 1, by omega, by go_num, HL5, HB5, R5⟩
            case measure => simp [intOf]; omega
          · obtain ⟨hy9, d1, d2⟩ := unhide ddata y rfl
            have y0 : decide (0 ≤ (y : Int)) = true := by simp
            have y9 : decide (9 ≤ (y : Int)) = false := by simp; omega
            have QD : ∀ W, (binOp .neq 41 (.agg #[.int .i64 ((Img.mend S.disk).of y), .string ((Img.mend S.disk).text y)]) (.agg #[.int .i64 (S.disk.of y), .string (S.disk.text y)])).run Tryz.prog W = .ok (.bool false) W := fun W => by
              rw [neqlDat, d1, d2]; simp
            go_upto_region 29 with fail
            refine wp_region_held_drew (S := Lif.Bk bl bf' bc' g9 cs2 ds2 ds) (by kernel_rfl) (hb5) (fun hS => ?_)
            refine wpAnyH_take (i := 0) (oi := { dst := some 145, op := Op.move (Operand.tmp 15), type := 3, pos := "law07.go:230", after := #[], guard := none }) (v := .int .i64 (y : Int)) rfl (by kernel_rfl) (by kernel_rfl) (by kernel_rfl) (fun _ _ _ h => h) (Or.inl ⟨by kernel_rfl, fun W h => (by first | kernel_rfl | go_simp)⟩) hb5 ?_
            try simp only [Act.put, List.setIfInBounds_toArray, List.set_cons_zero, List.set_cons_succ]
            refine wpAnyH_take (i := 1) (oi := { dst := some 146, op := Op.binOp BinOp.geq 3 (Operand.tmp 145) (Operand.const (Value.int IntKind.i64 0)) 3, type := 4, pos := "law07.go:230", after := #[{ on := 0, ground := Ground.data }], guard := none }) (v := .bool true) rfl (by kernel_rfl) (by kernel_rfl) (by kernel_rfl) (fun _ _ _ h => h) (Or.inl ⟨by kernel_rfl, fun W h => Lif.geq0 (.tmp 145) (by kernel_rfl) (by kernel_rfl) (by kernel_rfl) y0 W⟩) hb5 ?_
            try simp only [Act.put, List.setIfInBounds_toArray, List.set_cons_zero, List.set_cons_succ]
            refine wpAnyH_take (i := 2) (oi := { dst := some 147, op := Op.move (Operand.tmp 146), type := 4, pos := "law07.go:230", after := #[{ on := 1, ground := Ground.data }], guard := none }) (v := .bool true) rfl (by kernel_rfl) (by kernel_rfl) (by kernel_rfl) (fun _ _ _ h => h) (Or.inl ⟨by kernel_rfl, fun W h => (by first | kernel_rfl | go_simp)⟩) hb5 ?_
            try simp only [Act.put, List.setIfInBounds_toArray, List.set_cons_zero, List.set_cons_succ]
            refine wpAnyH_take (i := 3) (oi := { dst := some 148, op := Op.move (Operand.tmp 15), type := 3, pos := "law07.go:230", after := #[{ on := 2, ground := Ground.guard }], guard := some (2, true) }) (v := .int .i64 (y : Int)) rfl (by kernel_rfl) (by kernel_rfl) (by kernel_rfl) (fun _ _ _ h => h) (Or.inl ⟨by kernel_rfl, fun W h => (by first | kernel_rfl | go_simp)⟩) hb5 ?_
            try simp only [Act.put, List.setIfInBounds_toArray, List.set_cons_zero, List.set_cons_succ]
            refine wpAnyH_take (i := 4) (oi := { dst := some 149, op := Op.binOp BinOp.geq 3 (Operand.tmp 148) (Operand.const (Value.int IntKind.i64 9)) 3, type := 4, pos := "law07.go:230", after := #[{ on := 3, ground := Ground.data }, { on := 2, ground := Ground.guard }], guard := some (2, true) }) (v := .bool false) rfl (by kernel_rfl) (by kernel_rfl) (by kernel_rfl) (fun _ _ _ h => h) (Or.inl ⟨by kernel_rfl, fun W h => Lif.geq9 (.tmp 148) (by kernel_rfl) (by kernel_rfl) (by kernel_rfl) y9 W⟩) hb5 ?_
            try simp only [Act.put, List.setIfInBounds_toArray, List.set_cons_zero, List.set_cons_succ]
            refine wpAnyH_take (i := 5) (oi := { dst := some 150, op := Op.move (Operand.tmp 149), type := 4, pos := "law07.go:230", after := #[{ on := 4, ground := Ground.data }, { on := 2, ground := Ground.chain }, { on := 2, ground := Ground.guard }], guard := some (2, true) }) (v := .bool false) rfl (by kernel_rfl) (by kernel_rfl) (by kernel_rfl) (fun _ _ _ h => h) (Or.inl ⟨by kernel_rfl, fun W h => (by first | kernel_rfl | go_simp)⟩) hb5 ?_
            try simp only [Act.put, List.setIfInBounds_toArray, List.set_cons_zero, List.set_cons_succ]
            refine wpAnyH_take (i := 6) (oi := { dst := some 151, op := Op.move (Operand.tmp 7), type := 25, pos := "law07.go:230", after := #[{ on := 5, ground := Ground.guard }], guard := some (5, false) }) (v := .pointer (some ⟨bl, 0, none⟩)) rfl (by kernel_rfl) (by kernel_rfl) (by kernel_rfl) (fun _ _ _ h => h) (Or.inl ⟨by kernel_rfl, fun W h => (by first | kernel_rfl | go_simp)⟩) hb5 ?_
            try simp only [Act.put, List.setIfInBounds_toArray, List.set_cons_zero, List.set_cons_succ]
            refine wpAnyH_take (i := 7) (oi := { dst := some 152, op := Op.nilCheck (Operand.tmp 151), type := 0, pos := "law07.go:230", after := #[{ on := 6, ground := Ground.data }, { on := 5, ground := Ground.guard }], guard := some (5, false) }) (v := .pointer (some ⟨bl, 0, none⟩)) rfl (by kernel_rfl) (by kernel_rfl) (by kernel_rfl) (fun _ _ _ h => h) (Or.inl ⟨by kernel_rfl, fun W h => (by first | kernel_rfl | go_simp)⟩) hb5 ?_
            try simp only [Act.put, List.setIfInBounds_toArray, List.set_cons_zero, List.set_cons_succ]
            refine wpAnyH_take (i := 8) (oi := { dst := some 153, op := Op.fieldAddr 50 (Operand.tmp 152) 0, type := 0, pos := "law07.go:230", after := #[{ on := 7, ground := Ground.data }, { on := 5, ground := Ground.guard }], guard := some (5, false) }) (v := .pointer (some ⟨bl, 0, none⟩)) rfl (by kernel_rfl) (by kernel_rfl) (by kernel_rfl) (fun _ _ _ h => h) (Or.inl ⟨by kernel_rfl, fun W h => (by first | kernel_rfl | go_simp)⟩) hb5 ?_
            try simp only [Act.put, List.setIfInBounds_toArray, List.set_cons_zero, List.set_cons_succ]
            refine wpAnyH_take (i := 9) (oi := { dst := some 154, op := Op.load 46 (Operand.tmp 153), type := 46, pos := "law07.go:230", after := #[{ on := 8, ground := Ground.data }, { on := 5, ground := Ground.guard }], guard := some (5, false) }) (v := .pointer (some ⟨bf', 0, none⟩)) rfl (by kernel_rfl) (by kernel_rfl) (by kernel_rfl) (fun _ _ _ h => h) (Or.inl ⟨by kernel_rfl, fun W h => Op1.ld_files (.tmp 153) (by kernel_rfl) (by kernel_rfl) W h.p0⟩) hb5 ?_
            try simp only [Act.put, List.setIfInBounds_toArray, List.set_cons_zero, List.set_cons_succ]
            refine wpAnyH_take (i := 10) (oi := { dst := some 155, op := Op.nilCheck (Operand.tmp 154), type := 0, pos := "law07.go:230", after := #[{ on := 9, ground := Ground.data }, { on := 5, ground := Ground.guard }], guard := some (5, false) }) (v := .pointer (some ⟨bf', 0, none⟩)) rfl (by kernel_rfl) (by kernel_rfl) (by kernel_rfl) (fun _ _ _ h => h) (Or.inl ⟨by kernel_rfl, fun W h => (by first | kernel_rfl | go_simp)⟩) hb5 ?_
            try simp only [Act.put, List.setIfInBounds_toArray, List.set_cons_zero, List.set_cons_succ]
            refine wpAnyH_take (i := 11) (oi := { dst := some 156, op := Op.fieldAddr 53 (Operand.tmp 155) 0, type := 0, pos := "law07.go:230", after := #[{ on := 10, ground := Ground.data }, { on := 5, ground := Ground.guard }], guard := some (5, false) }) (v := .pointer (some ⟨bf', 0, none⟩)) rfl (by kernel_rfl) (by kernel_rfl) (by kernel_rfl) (fun _ _ _ h => h) (Or.inl ⟨by kernel_rfl, fun W h => (by first | kernel_rfl | go_simp)⟩) hb5 ?_
            try simp only [Act.put, List.setIfInBounds_toArray, List.set_cons_zero, List.set_cons_succ]
            refine wpAnyH_take (i := 12) (oi := { dst := some 157, op := Op.load 51 (Operand.tmp 156), type := 51, pos := "law07.go:230", after := #[{ on := 11, ground := Ground.data }, { on := 5, ground := Ground.guard }], guard := some (5, false) }) (v := .pointer (some ⟨bc', 0, none⟩)) rfl (by kernel_rfl) (by kernel_rfl) (by kernel_rfl) (fun _ _ _ h => h) (Or.inl ⟨by kernel_rfl, fun W h => Lif.ld_cache (.tmp 156) (by kernel_rfl) (by kernel_rfl) W h.p1⟩) hb5 ?_
            try simp only [Act.put, List.setIfInBounds_toArray, List.set_cons_zero, List.set_cons_succ]
            refine wpAnyH_take (i := 13) (oi := { dst := some 158, op := Op.move (Operand.tmp 15), type := 3, pos := "law07.go:230", after := #[{ on := 5, ground := Ground.guard }], guard := some (5, false) }) (v := .int .i64 (y : Int)) rfl (by kernel_rfl) (by kernel_rfl) (by kernel_rfl) (fun _ _ _ h => h) (Or.inl ⟨by kernel_rfl, fun W h => (by first | kernel_rfl | go_simp)⟩) hb5 ?_
            try simp only [Act.put, List.setIfInBounds_toArray, List.set_cons_zero, List.set_cons_succ]
            refine wpAnyH_take (i := 14) (oi := { dst := some 159, op := Op.nilCheck (Operand.tmp 157), type := 0, pos := "law07.go:230", after := #[{ on := 12, ground := Ground.data }, { on := 5, ground := Ground.guard }], guard := some (5, false) }) (v := .pointer (some ⟨bc', 0, none⟩)) rfl (by kernel_rfl) (by kernel_rfl) (by kernel_rfl) (fun _ _ _ h => h) (Or.inl ⟨by kernel_rfl, fun W h => (by first | kernel_rfl | go_simp)⟩) hb5 ?_
            try simp only [Act.put, List.setIfInBounds_toArray, List.set_cons_zero, List.set_cons_succ]
            refine wpAnyH_take (i := 15) (oi := { dst := some 160, op := Op.fieldAddr 57 (Operand.tmp 159) 0, type := 0, pos := "law07.go:230", after := #[{ on := 14, ground := Ground.data }, { on := 5, ground := Ground.guard }], guard := some (5, false) }) (v := .pointer (some ⟨bc', 0, none⟩)) rfl (by kernel_rfl) (by kernel_rfl) (by kernel_rfl) (fun _ _ _ h => h) (Or.inl ⟨by kernel_rfl, fun W h => (by first | kernel_rfl | go_simp)⟩) hb5 ?_
            try simp only [Act.put, List.setIfInBounds_toArray, List.set_cons_zero, List.set_cons_succ]
            refine wpAnyH_take (i := 16) (oi := { dst := some 161, op := Op.fieldAddr 44 (Operand.tmp 160) 2, type := 0, pos := "law07.go:230", after := #[{ on := 15, ground := Ground.data }, { on := 5, ground := Ground.guard }], guard := some (5, false) }) (v := .pointer (some ⟨bc', 76, none⟩)) rfl (by kernel_rfl) (by kernel_rfl) (by kernel_rfl) (fun _ _ _ h => h) (Or.inl ⟨by kernel_rfl, fun W h => (by first | kernel_rfl | go_simp)⟩) hb5 ?_
            try simp only [Act.put, List.setIfInBounds_toArray, List.set_cons_zero, List.set_cons_succ]
            refine wpAnyH_take (i := 17) (oi := { dst := some 162, op := Op.indexAddr 42 (Operand.tmp 161) (Operand.tmp 158), type := 0, pos := "law07.go:230", after := #[{ on := 16, ground := Ground.data }, { on := 13, ground := Ground.data }, { on := 5, ground := Ground.guard }], guard := some (5, false) }) (v := .pointer (some ⟨bc', 76 + y * 2, none⟩)) rfl (by kernel_rfl) (by kernel_rfl) (by kernel_rfl) (fun _ _ _ h => h) (Or.inl ⟨by kernel_rfl, fun W h => Lif.ix_dats (.tmp 161) (.tmp 158) (by kernel_rfl) (by kernel_rfl) (by kernel_rfl) hy9 W⟩) hb5 ?_
            try simp only [Act.put, List.setIfInBounds_toArray, List.set_cons_zero, List.set_cons_succ]
            refine wpAnyH_take (i := 18) (oi := { dst := some 163, op := Op.load 41 (Operand.tmp 162), type := 41, pos := "law07.go:230", after := #[{ on := 17, ground := Ground.data }, { on := 5, ground := Ground.guard }], guard := some (5, false) }) (v := .agg #[.int .i64 ((Img.mend S.disk).of y), .string ((Img.mend S.disk).text y)]) rfl (by kernel_rfl) (by kernel_rfl) (by kernel_rfl) (fun _ _ _ h => h) (Or.inl ⟨by kernel_rfl, fun W h => Lif.ld_some 41 (.tmp 162) (by kernel_rfl) _ _ _ (by kernel_rfl) W _ _ _ _ h.row dat_under2 rfl dat_info2 (by rw [Array.size_append, zi2]; omega) ((Lif.app_dat zi2 hy9).trans (Lif.datR hi2 hy9))⟩) hb5 ?_
            try simp only [Act.put, List.setIfInBounds_toArray, List.set_cons_zero, List.set_cons_succ]
            refine wpAnyH_take (i := 19) (oi := { dst := some 164, op := Op.move (Operand.tmp 15), type := 3, pos := "law07.go:230", after := #[{ on := 5, ground := Ground.guard }], guard := some (5, false) }) (v := .int .i64 (y : Int)) rfl (by kernel_rfl) (by kernel_rfl) (by kernel_rfl) (fun _ _ _ h => h) (Or.inl ⟨by kernel_rfl, fun W h => (by first | kernel_rfl | go_simp)⟩) hb5 ?_
            try simp only [Act.put, List.setIfInBounds_toArray, List.set_cons_zero, List.set_cons_succ]
            refine wpAnyH_take (i := 20) (oi := { dst := some 165, op := Op.fieldAddr 44 (Operand.tmp 9) 2, type := 0, pos := "law07.go:230", after := #[{ on := 5, ground := Ground.guard }], guard := some (5, false) }) (v := .pointer (some ⟨g9, 76, none⟩)) rfl (by kernel_rfl) (by kernel_rfl) (by kernel_rfl) (fun _ _ _ h => h) (Or.inl ⟨by kernel_rfl, fun W h => (by first | kernel_rfl | go_simp)⟩) hb5 ?_
            try simp only [Act.put, List.setIfInBounds_toArray, List.set_cons_zero, List.set_cons_succ]
            refine wpAnyH_take (i := 21) (oi := { dst := some 166, op := Op.indexAddr 42 (Operand.tmp 165) (Operand.tmp 164), type := 0, pos := "law07.go:230", after := #[{ on := 20, ground := Ground.data }, { on := 19, ground := Ground.data }, { on := 5, ground := Ground.guard }], guard := some (5, false) }) (v := .pointer (some ⟨g9, 76 + y * 2, none⟩)) rfl (by kernel_rfl) (by kernel_rfl) (by kernel_rfl) (fun _ _ _ h => h) (Or.inl ⟨by kernel_rfl, fun W h => Lif.ix_dats (.tmp 165) (.tmp 164) (by kernel_rfl) (by kernel_rfl) (by kernel_rfl) hy9 W⟩) hb5 ?_
            try simp only [Act.put, List.setIfInBounds_toArray, List.set_cons_zero, List.set_cons_succ]
            refine wpAnyH_take (i := 22) (oi := { dst := some 167, op := Op.load 41 (Operand.tmp 166), type := 41, pos := "law07.go:230", after := #[{ on := 21, ground := Ground.data }, { on := 5, ground := Ground.guard }], guard := some (5, false) }) (v := .agg #[.int .i64 (S.disk.of y), .string (S.disk.text y)]) rfl (by kernel_rfl) (by kernel_rfl) (by kernel_rfl) (fun _ _ _ h => h) (Or.inl ⟨by kernel_rfl, fun W h => Lif.ld_some 41 (.tmp 166) (by kernel_rfl) _ _ _ (by kernel_rfl) W _ _ _ _ h.box dat_under2 rfl dat_info2 (by rw [zds]; omega) (Lif.datR hds hy9)⟩) hb5 ?_
            try simp only [Act.put, List.setIfInBounds_toArray, List.set_cons_zero, List.set_cons_succ]
            refine wpAnyH_take (i := 23) (oi := { dst := some 168, op := Op.binOp BinOp.neq 41 (Operand.tmp 163) (Operand.tmp 167) 41, type := 4, pos := "law07.go:230", after := #[{ on := 18, ground := Ground.data }, { on := 22, ground := Ground.data }, { on := 5, ground := Ground.guard }], guard := some (5, false) }) (v := .bool false) rfl (by kernel_rfl) (by kernel_rfl) (by kernel_rfl) (fun _ _ _ h => h) (Or.inl ⟨by kernel_rfl, fun W h => run_exec_nev 41 41 (.tmp 163) (.tmp 167) (by kernel_rfl) _ _ (by kernel_rfl) (by kernel_rfl) false (by kernel_rfl) QD W⟩) hb5 ?_
            try simp only [Act.put, List.setIfInBounds_toArray, List.set_cons_zero, List.set_cons_succ]
            refine wpAnyH_take (i := 24) (oi := { dst := some 169, op := Op.pick (Operand.tmp 150) (Operand.const (Value.bool true)) (Operand.tmp 168), type := 4, pos := "law07.go:230", after := #[{ on := 5, ground := Ground.data }, { on := 23, ground := Ground.data }, { on := 2, ground := Ground.guard }], guard := some (2, true) }) (v := .bool false) rfl (by kernel_rfl) (by kernel_rfl) (by kernel_rfl) (fun _ _ _ h => h) (Or.inl ⟨by kernel_rfl, fun W h => (by first | kernel_rfl | go_simp)⟩) hb5 ?_
            try simp only [Act.put, List.setIfInBounds_toArray, List.set_cons_zero, List.set_cons_succ]
            refine wpAnyH_take (i := 25) (oi := { dst := some 170, op := Op.pick (Operand.tmp 147) (Operand.tmp 169) (Operand.const (Value.bool false)), type := 4, pos := "law07.go:230", after := #[{ on := 2, ground := Ground.data }, { on := 24, ground := Ground.data }], guard := none }) (v := .bool false) rfl (by kernel_rfl) (by kernel_rfl) (by kernel_rfl) (fun _ _ _ h => h) (Or.inl ⟨by kernel_rfl, fun W h => (by first | kernel_rfl | go_simp)⟩) hb5 ?_
            try simp only [Act.put, List.setIfInBounds_toArray, List.set_cons_zero, List.set_cons_succ]
            refine wpAnyH_done (by kernel_rfl) ?_ _
            clear hS QD
            go_wp2_with fail
            go_roundw
            case rel => exact ⟨p + 1, by omega, by go_num, HL5, HB5, R5⟩
            case measure => simp [intOf]; omega
end Go.Proofs.YtmbpckmpnnmnmacGreat
namespace Go.Proofs.YtmbpckmpnnmnmacGreat
open Go.RowKit
open Idl (Stp chk stpA)
namespace Lif
theorem eqib {o : Oper} {ρ : Operand → Value} (x y : Operand) (ho : o.op = .binOp .eql 3 x y 3) {u v : Int} (hx : ρ x = .int .i64 u) (hy : ρ y = .int .i64 v) {b : Bool} (hv : (u == v) = b) (w : World) : (execOp ρ o).run Tryz.prog w = .ok (.value (.bool b)) w := by
  unfold execOp
  rw [ho]
  go_simp
theorem gtr0b {o : Oper} {ρ : Operand → Value} (x : Operand) (ho : o.op = .binOp .gtr 3 x (.const (.int .i64 0)) 3) {v : Int} (hx : ρ x = .int .i64 v) (hy : ρ (.const (.int .i64 0)) = .int .i64 0) {b : Bool} (hv : decide (0 < v) = b) (w : World) : (execOp ρ o).run Tryz.prog w = .ok (.value (.bool b)) w := by
  unfold execOp
  rw [ho]
  go_simp
end Lif
namespace Lif
theorem safe0 : Img.safeTo Lv.new.now Lv.new.disk 8 = [] := by kernel_rfl
/-- a slice of numbers that is apart from the life -/
structure Saf (bl bf bc : Nat) (v : Value) (l : List Int) (W : World) : Prop where
  own : W.ownsRow 0 3 1 v l.length (ints l)
  off : ∀ g, v.ownBlock = some g → g ≠ bl ∧ g ≠ bf ∧ g ≠ bc
theorem Saf.below {bl bf bc : Nat} {v : Value} {l : List Int} {W W' : World} (h : Saf bl bf bc v l W) (hb : Below W.heap.size W W') : Saf bl bf bc v l W' :=
  ⟨ownBlock_keep h.own fun g hg => hb.block g (h.own.lt g hg).2, h.off⟩
theorem Saf.step {bl bf bc bf' bc' : Nat} {v : Value} {l : List Int} {W W' : World} (h : Saf bl bf bc v l W) (hc : Lc bl bf bc bf' bc' W W') : Saf bl bf' bc' v l W' := by
  refine ⟨ownBlock_keep h.own fun g hg => hc.old g (h.own.lt g hg).2 (h.off g hg).1 (h.off g hg).2.1 (h.off g hg).2.2, fun g hg => ?_⟩
  have hl := (h.own.lt g hg).2
  have := h.off g hg
  rcases hc.new with z | z
  · rw [z.1, z.2]; exact this
  · exact ⟨this.1, by omega, by omega⟩
end Lif
set_option maxHeartbeats 8000000 in
set_option maxRecDepth 100000 in
theorem lifeKeeps_any {w : World} {v : Value} {L : List Stp} (hs : Idl.Steps w v L) :
    Calls Tryz.prog 5 #[v] w fun e w' => e = .returned (.bool true) ∧ Below w.heap.size w w' := by
  have z := zero_img.1
  have hbg := Lif.begun_any w
  have HG := hide fun W (bW : Below w.heap.size w W) => Idl.greatSteps_any (hs.below bW)
  have HOk := hide hs.ok
  have hgl : Idl.greats L = false → L.length ≤ 200 := fun h => by
    simp only [Idl.greats, Bool.or_eq_false_iff, decide_eq_false_iff_not] at h
    omega
  have HGL := hide hgl
  obtain ⟨a, c, rfl, hst⟩ := Sft.Steps.gen hs
  have HST := hide hst
  clear hs hgl hst
  go_enter Tryz.func5, Tryz.ntmps5
  go_wp2_with fail
  refine hbg.mono ?_
  rintro e w1 ⟨rfl, b1⟩
  have B1 := hide b1
  have hg := unhide HG w1 b1
  clear b1 hbg
  cases hgr : Idl.greats L <;> rw [hgr] at hg
  case true =>
    clear hgr
    go_wp2_with fail
    refine hg.mono ?_
    rintro e w2 ⟨rfl, b2⟩
    have B2 := hide ((unhide B1).trans (b2.mono (unhide B1).size))
    clear b2 hg
    go_wp2_with fail
    go_ret
    exact ⟨rfl, unhide B2⟩
  have h200 := unhide HGL hgr
  clear hgr HGL HG
  go_wp2_with fail
  refine hg.mono ?_
  rintro e w2 ⟨rfl, b2⟩
  have B2 := hide ((unhide B1).trans (b2.mono (unhide B1).size))
  clear b2 hg B1
  go_wp2_with fail
  refine (lNew_any w (unhide B2)).mono ?_
  rintro e w3 ⟨bl, bf0, bc0, rfl, _, _, _, h3, _⟩
  have H3 := hide h3
  clear h3 B2
  go_wp2_with fail
  go_loopw [4, 5] (fun sv i wr => ∃ (j bf bc : Nat) (S : Lv), j ≤ L.length ∧ i = .int .i64 j ∧ Hid (Lo w bl bf bc S wr) ∧ Hid (S.Ok j) ∧ Hid (Lif.Saf bl bf bc sv (Img.safeTo S.now S.disk 8) wr)) (fun _ i _ => L.length - (intOf i).toNat)
  case atStart => exact ⟨0, bf0, bc0, Lv.new, Nat.zero_le _, rfl, H3, hide Lv.Ok.start, hide (by rw [Lif.safe0]; exact ⟨World.ownsRow_nil _ _ _ _, fun g hg => by cases hg⟩)⟩
  case round =>
    clear H3
    obtain ⟨j, bf, bc, S, hj, rfl, HF, HK, HS⟩ := hrel
    by_cases hlt : j < L.length
    case neg =>
      go_wp2_with fail
      go_ret
      exact ⟨rfl, (unhide HF).bel⟩
    have hjn : (j : Int) < (L.length : Int) := by omega
    obtain ⟨ga, oa, rfl, hga, hca⟩ := unhide HST j hlt
    have hxo := unhide HOk L[j] (List.getElem_mem hlt)
    generalize L[j] = x at hca hxo
    have HXO := hide hxo.big
    have HCA := hide hca
    have S0 := unhide HCA _ (unhide HF).bel
    have D := hide (lStep_any (unhide HF) (unhide HK) (by omega) x (unhide HXO).1 (unhide HXO).2.1 (unhide HXO).2.2)
    have K1 := hide ((unhide HK).any x)
    clear hca hxo HST HOk hga
    go_wp2_with (first | (refine wpList_value rfl (Lif.ix_step (c := c) _ _ rfl (g := ga) (q := oa) (n := L.length) (j := j) rfl rfl hlt _) ?_) | (refine wpList_value rfl (Lif.ld_step _ rfl rfl x _ S0) ?_))
    refine (unhide D).mono ?_
    rintro e w4 ⟨rfl, bf', bc', h4, l4⟩
    have H4 := hide h4
    have S4 := hide ((unhide HS).step l4)
    have DK := hide h4.fo.dsk
    have q0 := h4.ptr
    have q1 := h4.ptr2
    have SST := hide fun n (hn : n < 8) hl hs => Img.safe_step (unhide HK).hold x (n := n) hn hl hs
    have SCR := hide fun s (h9 : x.kind = 9) hs => Img.safe_crash (now := S.now) (disk := S.disk) (last := S.last) (x := x) h9 (s := s) hs
    rw [← S.step_now, ← S.step_disk] at SST SCR
    have SL := Img.safe_len S.now S.disk 8
    generalize Img.safeTo S.now S.disk 8 = sl at S4 SST SCR SL
    generalize S.step x = T at H4 K1 SST SCR DK
    clear h4 l4 D S0 HF HK HS
    go_wp2_with fail
    refine (unhide DK).mono ?_
    rintro e w5 ⟨⟨ds, rfl, hds⟩, b5⟩
    have H5 := hide ((unhide H4).call b5)
    have S5 := hide ((unhide S4).below b5)
    clear b5 DK H4 S4 q0 q1
    have s1 := hide (heap_alloc_last w5 (.cells zeroCells 44))
    have BA := hide (below_setRow ((Below.refl w5.heap.size w5).alloc (Nat.le_refl _) (.cells zeroCells 44)) (Nat.le_refl w5.heap.size) ds)
    have RA := hide (setRow_heap (w5.alloc (.cells zeroCells 44)) w5.heap.size _ ds _ _ (heap_alloc_last w5 (.cells zeroCells 44)))
    have NG := hide (show w5.heap.size ≠ bl ∧ w5.heap.size ≠ bf' ∧ w5.heap.size ≠ bc' by have := (unhide H5).lt; have := (unhide H5).fo.cells.2.1; have := (unhide H5).fo.cells.2.2.1; omega)
    go_upto_region 12 with ((have hx := unhide s1; refine wpList_store_row rfl 44 _ _ rfl w5.heap.size ds rfl rfl 44 zeroCells hx (img_info (hds).size) (zero_size hds) (hds).all ?_; clear hx s1; generalize (w5.alloc (.cells zeroCells 44)).setRow w5.heap.size ds = X6 at BA RA ⊢))
    have H6 := hide ((unhide H5).call (unhide BA))
    have S6 := hide ((unhide S5).below (unhide BA))
    generalize w5.heap.size = g6 at RA NG ⊢
    clear BA H5 S5
    have zds := hds.size
    obtain ⟨cs, es, hbk, hi, hj6⟩ := Lif.Bk.of (unhide H6) (unhide RA)
    have zi := hi.size
    have HBK := hide hbk
    clear hbk hj6 RA
    go_wp2_with fail
    go_loopw [7, 8] (fun nv i wr => ∃ n : Nat, n ≤ 8 ∧ i = .int .i64 n ∧ Hid (Below X6.heap.size X6 wr) ∧ Hid (wr.ownsRow X6.heap.size 3 1 nv (Img.safeTo T.now T.disk n).length (Lif.ints (Img.safeTo T.now T.disk n)))) (fun _ i _ => 8 - (intOf i).toNat)
    case atStart => exact ⟨0, Nat.zero_le _, rfl, hide (Below.refl _ _), hide (World.ownsRow_nil _ _ _ _)⟩
    case round =>
      obtain ⟨n, hn, rfl, BR, OW⟩ := hrel
      have HB1 := hide ((unhide HBK).below (unhide BR))
      have H1 := hide ((unhide H6).call (unhide BR))
      have S1 := hide ((unhide S6).below (unhide BR))
      by_cases hn8 : n < 8
      case pos =>
        have t8 : decide ((n : Int) < 8) = true := by simp; omega
        have jn : (n : Int) < 8 := by omega
        have zN := zero_inoZ
        have q0 := (unhide HB1).p0
        have q1 := (unhide HB1).p1
        have r1 := hide (unhide HB1).row
        have hle : n * 5 + 5 ≤ (cs ++ es).size := by rw [Array.size_append, zi]; omega
        have s1 := hide (heap_alloc_last wr (.cells inoZ 34))
        have BA := hide (below_setRow ((Below.refl wr.heap.size wr).alloc (Nat.le_refl _) (.cells inoZ 34)) (Nat.le_refl wr.heap.size) (inoC T.now n))
        have RA := hide (setRow_heap (wr.alloc (.cells inoZ 34)) wr.heap.size _ (inoC T.now n) _ _ (heap_alloc_last wr (.cells inoZ 34)))
        go_upto_region 17 with (first | (have hx := unhide r1; refine wpList_load_part rfl 34 _ rfl bc' (n * 5) 5 rfl 57 (cs ++ es) _ hx ino_under rfl ino_cells5 hle ?_; rw [Lif.app_ino zi hn8, inoC_row hi hn8]; clear hx r1) | (have hx := unhide s1; refine wpList_store_row rfl 34 _ _ rfl wr.heap.size (inoC T.now n) rfl rfl 34 inoZ hx (inoC_info T.now n) rfl (inoC_all T.now n) ?_; clear hx s1))
        try simp only [Act.put]
        generalize (wr.alloc (.cells inoZ 34)).setRow wr.heap.size (inoC T.now n) = X9 at BA RA ⊢
        have B9 := hide (show Below X6.heap.size X6 X9 from (unhide BR).trans ((unhide BA).mono (unhide BR).size))
        have OW9 := hide (Lif.ownBlock_keep (unhide OW) fun g hg => (unhide BA).block g ((unhide OW).lt g hg).2)
        have HB9 := hide ((unhide HB1).below (unhide BA))
        have S9 := hide ((unhide S1).below (unhide BA))
        generalize wr.heap.size = g9 at RA ⊢
        clear q0 q1 BA HB1 H1 S1 BR OW
        have e0 := (Lif.inoC_cells (unhide RA)).1
        have e1 := (Lif.inoC_cells (unhide RA)).2.1
        cases hlv : T.now.live n
        case false =>
          rw [hlv] at e0
          have E1 := hide (show Img.safeTo T.now T.disk (n + 1) = Img.safeTo T.now T.disk n from if_neg (fun z => by rw [hlv] at z; cases z.1))
          go_wp2_with fail
          go_roundw
          case rel => exact ⟨n + 1, by omega, by go_num, B9, by rw [unhide E1]; exact OW9⟩
          case measure => simp [intOf]; omega
        rw [hlv] at e0
        have HLV := hide hlv
        clear hlv
        go_upto_region 18 with fail
        obtain ⟨nd, hnd⟩ : ∃ b : Bool, b = Img.onDisk T.now T.disk n := ⟨_, rfl⟩
        have ND := hide hnd
        clear hnd
        go_cut [10] (fun q wx => q = .bool nd ∧ Hid (Below X9.heap.size X9 wx))
        case first =>
          have hb : Lif.Bk bl bf' bc' g6 cs es ds X9.drew ∧ X9.drew.heap[g9]? = some (.cells (inoC T.now n) 34) := ⟨(unhide HB9).below (Below.refl _ X9).drew, unhide RA⟩
          have BD := hide (show Below X9.heap.size X9 X9.drew from (Below.refl _ X9).drew)
          have HD := hide fun V (h : Lif.Bk bl bf' bc' g6 cs es ds V) => show HasAt V g6 0 T.disk from hasAt_of h.box (o := 0) (by rw [zds]; omega) (by rw [Nat.zero_add, show 94 = ds.size from zds.symm]; simp) hds
          cases hl2 : T.disk.live n
          case false =>
            have EN := hide (show nd = false by rw [unhide ND]; unfold Img.onDisk; rw [hl2]; rfl)
            refine wp_region_held_drew (S := fun V => Lif.Bk bl bf' bc' g6 cs es ds V ∧ V.heap[g9]? = some (.cells (inoC T.now n) 34)) (by kernel_rfl) (hb) (fun hS => ?_)
            refine wpAnyH_take (i := 0) (oi := { dst := some 57, op := Op.move (Operand.tmp 8), type := 3, pos := "law07.go:86", after := #[], guard := none }) (v := .int .i64 (n : Int)) rfl (by kernel_rfl) (by kernel_rfl) (by kernel_rfl) (fun _ _ _ h => h) (Or.inl ⟨by kernel_rfl, fun W h => (by first | kernel_rfl | go_simp)⟩) hb ?_
            try simp only [Act.put, List.setIfInBounds_toArray, List.set_cons_zero, List.set_cons_succ]
            refine wpAnyH_take (i := 1) (oi := { dst := some 58, op := Op.fieldAddr 44 (Operand.tmp 6) 0, type := 0, pos := "law07.go:86", after := #[], guard := none }) (v := .pointer (some ⟨g6, 0, none⟩)) rfl (by kernel_rfl) (by kernel_rfl) (by kernel_rfl) (fun _ _ _ h => h) (Or.inl ⟨by kernel_rfl, fun W h => (by first | kernel_rfl | go_simp)⟩) hb ?_
            try simp only [Act.put, List.setIfInBounds_toArray, List.set_cons_zero, List.set_cons_succ]
            refine wpAnyH_take (i := 2) (oi := { dst := some 59, op := Op.indexAddr 35 (Operand.tmp 58) (Operand.tmp 57), type := 0, pos := "law07.go:86", after := #[{ on := 1, ground := Ground.data }, { on := 0, ground := Ground.data }], guard := none }) (v := .pointer (some ⟨g6, n * 5, none⟩)) rfl (by kernel_rfl) (by kernel_rfl) (by kernel_rfl) (fun _ _ _ h => h) (Or.inl ⟨by kernel_rfl, fun W h => Lif.ix_inos (.tmp 58) (.tmp 57) (by kernel_rfl) (by kernel_rfl) (by kernel_rfl) hn8 W⟩) hb ?_
            try simp only [Act.put, List.setIfInBounds_toArray, List.set_cons_zero, List.set_cons_succ]
            refine wpAnyH_take (i := 3) (oi := { dst := some 60, op := Op.fieldAddr 34 (Operand.tmp 59) 0, type := 0, pos := "law07.go:86", after := #[{ on := 2, ground := Ground.data }], guard := none }) (v := .pointer (some ⟨g6, n * 5, none⟩)) rfl (by kernel_rfl) (by kernel_rfl) (by kernel_rfl) (fun _ _ _ h => h) (Or.inl ⟨by kernel_rfl, fun W h => (by first | kernel_rfl | go_simp)⟩) hb ?_
            try simp only [Act.put, List.setIfInBounds_toArray, List.set_cons_zero, List.set_cons_succ]
            refine wpAnyH_take (i := 4) (oi := { dst := some 61, op := Op.load 4 (Operand.tmp 60), type := 4, pos := "law07.go:86", after := #[{ on := 3, ground := Ground.data }], guard := none }) (v := .bool false) rfl (by kernel_rfl) (by kernel_rfl) (by kernel_rfl) (fun _ _ _ h => h) (Or.inl ⟨by kernel_rfl, fun W h => Lif.ld_bool (.tmp 60) (by kernel_rfl) (by kernel_rfl) W (by have := (unhide HD W h.1).live n hn8; rw [Nat.zero_add, hl2] at this; exact this)⟩) hb ?_
            try simp only [Act.put, List.setIfInBounds_toArray, List.set_cons_zero, List.set_cons_succ]
            refine wpAnyH_take (i := 5) (oi := { dst := some 62, op := Op.move (Operand.tmp 61), type := 4, pos := "law07.go:86", after := #[{ on := 4, ground := Ground.data }], guard := none }) (v := .bool false) rfl (by kernel_rfl) (by kernel_rfl) (by kernel_rfl) (fun _ _ _ h => h) (Or.inl ⟨by kernel_rfl, fun W h => (by first | kernel_rfl | go_simp)⟩) hb ?_
            try simp only [Act.put, List.setIfInBounds_toArray, List.set_cons_zero, List.set_cons_succ]
            refine wpAnyH_take (i := 6) (oi := { dst := some 63, op := Op.move (Operand.tmp 8), type := 3, pos := "law07.go:86", after := #[{ on := 5, ground := Ground.guard }], guard := some (5, true) }) (v := undef) rfl (by kernel_rfl) (by kernel_rfl) (by kernel_rfl) (fun _ _ _ h => h) (Or.inr ⟨by kernel_rfl, rfl⟩) hb ?_
            try simp only [Act.put, List.setIfInBounds_toArray, List.set_cons_zero, List.set_cons_succ]
            refine wpAnyH_take (i := 7) (oi := { dst := some 64, op := Op.fieldAddr 44 (Operand.tmp 6) 0, type := 0, pos := "law07.go:86", after := #[{ on := 5, ground := Ground.guard }], guard := some (5, true) }) (v := undef) rfl (by kernel_rfl) (by kernel_rfl) (by kernel_rfl) (fun _ _ _ h => h) (Or.inr ⟨by kernel_rfl, rfl⟩) hb ?_
            try simp only [Act.put, List.setIfInBounds_toArray, List.set_cons_zero, List.set_cons_succ]
            refine wpAnyH_take (i := 8) (oi := { dst := some 65, op := Op.indexAddr 35 (Operand.tmp 64) (Operand.tmp 63), type := 0, pos := "law07.go:86", after := #[{ on := 7, ground := Ground.data }, { on := 6, ground := Ground.data }, { on := 5, ground := Ground.guard }], guard := some (5, true) }) (v := undef) rfl (by kernel_rfl) (by kernel_rfl) (by kernel_rfl) (fun _ _ _ h => h) (Or.inr ⟨by kernel_rfl, rfl⟩) hb ?_
            try simp only [Act.put, List.setIfInBounds_toArray, List.set_cons_zero, List.set_cons_succ]
            refine wpAnyH_take (i := 9) (oi := { dst := some 66, op := Op.fieldAddr 34 (Operand.tmp 65) 1, type := 0, pos := "law07.go:86", after := #[{ on := 8, ground := Ground.data }, { on := 5, ground := Ground.guard }], guard := some (5, true) }) (v := undef) rfl (by kernel_rfl) (by kernel_rfl) (by kernel_rfl) (fun _ _ _ h => h) (Or.inr ⟨by kernel_rfl, rfl⟩) hb ?_
            try simp only [Act.put, List.setIfInBounds_toArray, List.set_cons_zero, List.set_cons_succ]
            refine wpAnyH_take (i := 10) (oi := { dst := some 67, op := Op.load 3 (Operand.tmp 66), type := 3, pos := "law07.go:86", after := #[{ on := 9, ground := Ground.data }, { on := 5, ground := Ground.guard }], guard := some (5, true) }) (v := undef) rfl (by kernel_rfl) (by kernel_rfl) (by kernel_rfl) (fun _ _ _ h => h) (Or.inr ⟨by kernel_rfl, rfl⟩) hb ?_
            try simp only [Act.put, List.setIfInBounds_toArray, List.set_cons_zero, List.set_cons_succ]
            refine wpAnyH_take (i := 11) (oi := { dst := some 68, op := Op.fieldAddr 34 (Operand.tmp 9) 1, type := 0, pos := "law07.go:86", after := #[{ on := 5, ground := Ground.guard }], guard := some (5, true) }) (v := undef) rfl (by kernel_rfl) (by kernel_rfl) (by kernel_rfl) (fun _ _ _ h => h) (Or.inr ⟨by kernel_rfl, rfl⟩) hb ?_
            try simp only [Act.put, List.setIfInBounds_toArray, List.set_cons_zero, List.set_cons_succ]
            refine wpAnyH_take (i := 12) (oi := { dst := some 69, op := Op.load 3 (Operand.tmp 68), type := 3, pos := "law07.go:86", after := #[{ on := 11, ground := Ground.data }, { on := 5, ground := Ground.guard }], guard := some (5, true) }) (v := undef) rfl (by kernel_rfl) (by kernel_rfl) (by kernel_rfl) (fun _ _ _ h => h) (Or.inr ⟨by kernel_rfl, rfl⟩) hb ?_
            try simp only [Act.put, List.setIfInBounds_toArray, List.set_cons_zero, List.set_cons_succ]
            refine wpAnyH_take (i := 13) (oi := { dst := some 70, op := Op.binOp BinOp.eql 3 (Operand.tmp 67) (Operand.tmp 69) 3, type := 4, pos := "law07.go:86", after := #[{ on := 10, ground := Ground.data }, { on := 12, ground := Ground.data }, { on := 5, ground := Ground.guard }], guard := some (5, true) }) (v := undef) rfl (by kernel_rfl) (by kernel_rfl) (by kernel_rfl) (fun _ _ _ h => h) (Or.inr ⟨by kernel_rfl, rfl⟩) hb ?_
            try simp only [Act.put, List.setIfInBounds_toArray, List.set_cons_zero, List.set_cons_succ]
            refine wpAnyH_take (i := 14) (oi := { dst := some 71, op := Op.pick (Operand.tmp 62) (Operand.tmp 70) (Operand.const (Value.bool false)), type := 4, pos := "law07.go:86", after := #[{ on := 5, ground := Ground.data }, { on := 13, ground := Ground.data }], guard := none }) (v := .bool false) rfl (by kernel_rfl) (by kernel_rfl) (by kernel_rfl) (fun _ _ _ h => h) (Or.inl ⟨by kernel_rfl, fun W h => (by first | kernel_rfl | go_simp)⟩) hb ?_
            try simp only [Act.put, List.setIfInBounds_toArray, List.set_cons_zero, List.set_cons_succ]
            refine wpAnyH_take (i := 15) (oi := { dst := some 72, op := Op.move (Operand.tmp 71), type := 4, pos := "law07.go:86", after := #[{ on := 14, ground := Ground.data }, { on := 5, ground := Ground.chain }], guard := none }) (v := .bool false) rfl (by kernel_rfl) (by kernel_rfl) (by kernel_rfl) (fun _ _ _ h => h) (Or.inl ⟨by kernel_rfl, fun W h => (by first | kernel_rfl | go_simp)⟩) hb ?_
            try simp only [Act.put, List.setIfInBounds_toArray, List.set_cons_zero, List.set_cons_succ]
            refine wpAnyH_take (i := 16) (oi := { dst := some 73, op := Op.move (Operand.tmp 8), type := 3, pos := "law07.go:86", after := #[{ on := 15, ground := Ground.guard }], guard := some (15, true) }) (v := undef) rfl (by kernel_rfl) (by kernel_rfl) (by kernel_rfl) (fun _ _ _ h => h) (Or.inr ⟨by kernel_rfl, rfl⟩) hb ?_
            try simp only [Act.put, List.setIfInBounds_toArray, List.set_cons_zero, List.set_cons_succ]
            refine wpAnyH_take (i := 17) (oi := { dst := some 74, op := Op.call { callee := Callee.value (Operand.func 26), args := #[Operand.tmp 6, Operand.tmp 73], argTypes := #[64, 3] }, type := 3, pos := "law07.go:86", after := #[{ on := 16, ground := Ground.data }, { on := 15, ground := Ground.chain }, { on := 15, ground := Ground.guard }], guard := some (15, true) }) (v := undef) rfl (by kernel_rfl) (by kernel_rfl) (by kernel_rfl) (fun _ _ _ h => h) (Or.inr ⟨by kernel_rfl, rfl⟩) hb ?_
            try simp only [Act.put, List.setIfInBounds_toArray, List.set_cons_zero, List.set_cons_succ]
            refine wpAnyH_take (i := 18) (oi := { dst := some 75, op := Op.binOp BinOp.gtr 3 (Operand.tmp 74) (Operand.const (Value.int IntKind.i64 0)) 3, type := 4, pos := "law07.go:86", after := #[{ on := 17, ground := Ground.data }, { on := 15, ground := Ground.guard }], guard := some (15, true) }) (v := undef) rfl (by kernel_rfl) (by kernel_rfl) (by kernel_rfl) (fun _ _ _ h => h) (Or.inr ⟨by kernel_rfl, rfl⟩) hb ?_
            try simp only [Act.put, List.setIfInBounds_toArray, List.set_cons_zero, List.set_cons_succ]
            refine wpAnyH_take (i := 19) (oi := { dst := some 76, op := Op.pick (Operand.tmp 72) (Operand.tmp 75) (Operand.const (Value.bool false)), type := 4, pos := "law07.go:86", after := #[{ on := 15, ground := Ground.data }, { on := 18, ground := Ground.data }], guard := none }) (v := .bool false) rfl (by kernel_rfl) (by kernel_rfl) (by kernel_rfl) (fun _ _ _ h => h) (Or.inl ⟨by kernel_rfl, fun W h => (by first | kernel_rfl | go_simp)⟩) hb ?_
            try simp only [Act.put, List.setIfInBounds_toArray, List.set_cons_zero, List.set_cons_succ]
            refine wpAnyH_take (i := 20) (oi := { dst := some 10, op := Op.assign (Operand.tmp 76), type := 4, pos := "law07.go:86", after := #[{ on := 19, ground := Ground.data }, { on := 17, ground := Ground.chain }, { on := 0, ground := Ground.phase }, { on := 1, ground := Ground.phase }, { on := 2, ground := Ground.phase }, { on := 3, ground := Ground.phase }, { on := 4, ground := Ground.phase }, { on := 5, ground := Ground.phase }, { on := 6, ground := Ground.phase }, { on := 7, ground := Ground.phase }, { on := 8, ground := Ground.phase }, { on := 9, ground := Ground.phase }, { on := 10, ground := Ground.phase }, { on := 11, ground := Ground.phase }, { on := 12, ground := Ground.phase }, { on := 13, ground := Ground.phase }, { on := 14, ground := Ground.phase }, { on := 15, ground := Ground.phase }, { on := 16, ground := Ground.phase }, { on := 17, ground := Ground.phase }, { on := 18, ground := Ground.phase }, { on := 19, ground := Ground.phase }], guard := none }) (v := .bool false) rfl (by kernel_rfl) (by kernel_rfl) (by kernel_rfl) (fun _ _ _ h => h) (Or.inl ⟨by kernel_rfl, fun W h => (by first | kernel_rfl | go_simp)⟩) hb ?_
            try simp only [Act.put, List.setIfInBounds_toArray, List.set_cons_zero, List.set_cons_succ]
            refine wpAnyH_done (by kernel_rfl) ?_ _
            clear hS
            go_wp2_with fail
            go_meet
            exact ⟨by rw [unhide EN], BD⟩
          by_cases hst : T.disk.stamp n = T.now.stamp n
          case neg =>
            have EN := hide (show nd = false by rw [unhide ND]; unfold Img.onDisk; rw [show (T.disk.stamp n == T.now.stamp n) = false by simpa using hst]; simp)
            have qs : (T.disk.stamp n == T.now.stamp n) = false := by simpa using hst
            clear hst
            refine wp_region_held_drew (S := fun V => Lif.Bk bl bf' bc' g6 cs es ds V ∧ V.heap[g9]? = some (.cells (inoC T.now n) 34)) (by kernel_rfl) (hb) (fun hS => ?_)
            refine wpAnyH_take (i := 0) (oi := { dst := some 57, op := Op.move (Operand.tmp 8), type := 3, pos := "law07.go:86", after := #[], guard := none }) (v := .int .i64 (n : Int)) rfl (by kernel_rfl) (by kernel_rfl) (by kernel_rfl) (fun _ _ _ h => h) (Or.inl ⟨by kernel_rfl, fun W h => (by first | kernel_rfl | go_simp)⟩) hb ?_
            try simp only [Act.put, List.setIfInBounds_toArray, List.set_cons_zero, List.set_cons_succ]
            refine wpAnyH_take (i := 1) (oi := { dst := some 58, op := Op.fieldAddr 44 (Operand.tmp 6) 0, type := 0, pos := "law07.go:86", after := #[], guard := none }) (v := .pointer (some ⟨g6, 0, none⟩)) rfl (by kernel_rfl) (by kernel_rfl) (by kernel_rfl) (fun _ _ _ h => h) (Or.inl ⟨by kernel_rfl, fun W h => (by first | kernel_rfl | go_simp)⟩) hb ?_
            try simp only [Act.put, List.setIfInBounds_toArray, List.set_cons_zero, List.set_cons_succ]
            refine wpAnyH_take (i := 2) (oi := { dst := some 59, op := Op.indexAddr 35 (Operand.tmp 58) (Operand.tmp 57), type := 0, pos := "law07.go:86", after := #[{ on := 1, ground := Ground.data }, { on := 0, ground := Ground.data }], guard := none }) (v := .pointer (some ⟨g6, n * 5, none⟩)) rfl (by kernel_rfl) (by kernel_rfl) (by kernel_rfl) (fun _ _ _ h => h) (Or.inl ⟨by kernel_rfl, fun W h => Lif.ix_inos (.tmp 58) (.tmp 57) (by kernel_rfl) (by kernel_rfl) (by kernel_rfl) hn8 W⟩) hb ?_
            try simp only [Act.put, List.setIfInBounds_toArray, List.set_cons_zero, List.set_cons_succ]
            refine wpAnyH_take (i := 3) (oi := { dst := some 60, op := Op.fieldAddr 34 (Operand.tmp 59) 0, type := 0, pos := "law07.go:86", after := #[{ on := 2, ground := Ground.data }], guard := none }) (v := .pointer (some ⟨g6, n * 5, none⟩)) rfl (by kernel_rfl) (by kernel_rfl) (by kernel_rfl) (fun _ _ _ h => h) (Or.inl ⟨by kernel_rfl, fun W h => (by first | kernel_rfl | go_simp)⟩) hb ?_
            try simp only [Act.put, List.setIfInBounds_toArray, List.set_cons_zero, List.set_cons_succ]
            refine wpAnyH_take (i := 4) (oi := { dst := some 61, op := Op.load 4 (Operand.tmp 60), type := 4, pos := "law07.go:86", after := #[{ on := 3, ground := Ground.data }], guard := none }) (v := .bool true) rfl (by kernel_rfl) (by kernel_rfl) (by kernel_rfl) (fun _ _ _ h => h) (Or.inl ⟨by kernel_rfl, fun W h => Lif.ld_bool (.tmp 60) (by kernel_rfl) (by kernel_rfl) W (by have := (unhide HD W h.1).live n hn8; rw [Nat.zero_add, hl2] at this; exact this)⟩) hb ?_
            try simp only [Act.put, List.setIfInBounds_toArray, List.set_cons_zero, List.set_cons_succ]
            refine wpAnyH_take (i := 5) (oi := { dst := some 62, op := Op.move (Operand.tmp 61), type := 4, pos := "law07.go:86", after := #[{ on := 4, ground := Ground.data }], guard := none }) (v := .bool true) rfl (by kernel_rfl) (by kernel_rfl) (by kernel_rfl) (fun _ _ _ h => h) (Or.inl ⟨by kernel_rfl, fun W h => (by first | kernel_rfl | go_simp)⟩) hb ?_
            try simp only [Act.put, List.setIfInBounds_toArray, List.set_cons_zero, List.set_cons_succ]
            refine wpAnyH_take (i := 6) (oi := { dst := some 63, op := Op.move (Operand.tmp 8), type := 3, pos := "law07.go:86", after := #[{ on := 5, ground := Ground.guard }], guard := some (5, true) }) (v := .int .i64 (n : Int)) rfl (by kernel_rfl) (by kernel_rfl) (by kernel_rfl) (fun _ _ _ h => h) (Or.inl ⟨by kernel_rfl, fun W h => (by first | kernel_rfl | go_simp)⟩) hb ?_
            try simp only [Act.put, List.setIfInBounds_toArray, List.set_cons_zero, List.set_cons_succ]
            refine wpAnyH_take (i := 7) (oi := { dst := some 64, op := Op.fieldAddr 44 (Operand.tmp 6) 0, type := 0, pos := "law07.go:86", after := #[{ on := 5, ground := Ground.guard }], guard := some (5, true) }) (v := .pointer (some ⟨g6, 0, none⟩)) rfl (by kernel_rfl) (by kernel_rfl) (by kernel_rfl) (fun _ _ _ h => h) (Or.inl ⟨by kernel_rfl, fun W h => (by first | kernel_rfl | go_simp)⟩) hb ?_
            try simp only [Act.put, List.setIfInBounds_toArray, List.set_cons_zero, List.set_cons_succ]
            refine wpAnyH_take (i := 8) (oi := { dst := some 65, op := Op.indexAddr 35 (Operand.tmp 64) (Operand.tmp 63), type := 0, pos := "law07.go:86", after := #[{ on := 7, ground := Ground.data }, { on := 6, ground := Ground.data }, { on := 5, ground := Ground.guard }], guard := some (5, true) }) (v := .pointer (some ⟨g6, n * 5, none⟩)) rfl (by kernel_rfl) (by kernel_rfl) (by kernel_rfl) (fun _ _ _ h => h) (Or.inl ⟨by kernel_rfl, fun W h => Lif.ix_inos (.tmp 64) (.tmp 63) (by kernel_rfl) (by kernel_rfl) (by kernel_rfl) hn8 W⟩) hb ?_
            try simp only [Act.put, List.setIfInBounds_toArray, List.set_cons_zero, List.set_cons_succ]
            refine wpAnyH_take (i := 9) (oi := { dst := some 66, op := Op.fieldAddr 34 (Operand.tmp 65) 1, type := 0, pos := "law07.go:86", after := #[{ on := 8, ground := Ground.data }, { on := 5, ground := Ground.guard }], guard := some (5, true) }) (v := .pointer (some ⟨g6, n * 5 + 1, none⟩)) rfl (by kernel_rfl) (by kernel_rfl) (by kernel_rfl) (fun _ _ _ h => h) (Or.inl ⟨by kernel_rfl, fun W h => (by first | kernel_rfl | go_simp)⟩) hb ?_
            try simp only [Act.put, List.setIfInBounds_toArray, List.set_cons_zero, List.set_cons_succ]
            refine wpAnyH_take (i := 10) (oi := { dst := some 67, op := Op.load 3 (Operand.tmp 66), type := 3, pos := "law07.go:86", after := #[{ on := 9, ground := Ground.data }, { on := 5, ground := Ground.guard }], guard := some (5, true) }) (v := .int .i64 (T.disk.stamp n)) rfl (by kernel_rfl) (by kernel_rfl) (by kernel_rfl) (fun _ _ _ h => h) (Or.inl ⟨by kernel_rfl, fun W h => Lif.ld_int (.tmp 66) (by kernel_rfl) (by kernel_rfl) W (by have := (unhide HD W h.1).stamp n hn8; rw [Nat.zero_add] at this; exact this)⟩) hb ?_
            try simp only [Act.put, List.setIfInBounds_toArray, List.set_cons_zero, List.set_cons_succ]
            refine wpAnyH_take (i := 11) (oi := { dst := some 68, op := Op.fieldAddr 34 (Operand.tmp 9) 1, type := 0, pos := "law07.go:86", after := #[{ on := 5, ground := Ground.guard }], guard := some (5, true) }) (v := .pointer (some ⟨g9, 1, none⟩)) rfl (by kernel_rfl) (by kernel_rfl) (by kernel_rfl) (fun _ _ _ h => h) (Or.inl ⟨by kernel_rfl, fun W h => (by first | kernel_rfl | go_simp)⟩) hb ?_
            try simp only [Act.put, List.setIfInBounds_toArray, List.set_cons_zero, List.set_cons_succ]
            refine wpAnyH_take (i := 12) (oi := { dst := some 69, op := Op.load 3 (Operand.tmp 68), type := 3, pos := "law07.go:86", after := #[{ on := 11, ground := Ground.data }, { on := 5, ground := Ground.guard }], guard := some (5, true) }) (v := .int .i64 (T.now.stamp n)) rfl (by kernel_rfl) (by kernel_rfl) (by kernel_rfl) (fun _ _ _ h => h) (Or.inl ⟨by kernel_rfl, fun W h => Lif.ld_int (.tmp 68) (by kernel_rfl) (by kernel_rfl) W (Lif.inoC_cells h.2).2.1⟩) hb ?_
            try simp only [Act.put, List.setIfInBounds_toArray, List.set_cons_zero, List.set_cons_succ]
            refine wpAnyH_take (i := 13) (oi := { dst := some 70, op := Op.binOp BinOp.eql 3 (Operand.tmp 67) (Operand.tmp 69) 3, type := 4, pos := "law07.go:86", after := #[{ on := 10, ground := Ground.data }, { on := 12, ground := Ground.data }, { on := 5, ground := Ground.guard }], guard := some (5, true) }) (v := .bool false) rfl (by kernel_rfl) (by kernel_rfl) (by kernel_rfl) (fun _ _ _ h => h) (Or.inl ⟨by kernel_rfl, fun W h => Lif.eqib (.tmp 67) (.tmp 69) (by kernel_rfl) (by kernel_rfl) (by kernel_rfl) qs W⟩) hb ?_
            try simp only [Act.put, List.setIfInBounds_toArray, List.set_cons_zero, List.set_cons_succ]
            refine wpAnyH_take (i := 14) (oi := { dst := some 71, op := Op.pick (Operand.tmp 62) (Operand.tmp 70) (Operand.const (Value.bool false)), type := 4, pos := "law07.go:86", after := #[{ on := 5, ground := Ground.data }, { on := 13, ground := Ground.data }], guard := none }) (v := .bool false) rfl (by kernel_rfl) (by kernel_rfl) (by kernel_rfl) (fun _ _ _ h => h) (Or.inl ⟨by kernel_rfl, fun W h => (by first | kernel_rfl | go_simp)⟩) hb ?_
            try simp only [Act.put, List.setIfInBounds_toArray, List.set_cons_zero, List.set_cons_succ]
            refine wpAnyH_take (i := 15) (oi := { dst := some 72, op := Op.move (Operand.tmp 71), type := 4, pos := "law07.go:86", after := #[{ on := 14, ground := Ground.data }, { on := 5, ground := Ground.chain }], guard := none }) (v := .bool false) rfl (by kernel_rfl) (by kernel_rfl) (by kernel_rfl) (fun _ _ _ h => h) (Or.inl ⟨by kernel_rfl, fun W h => (by first | kernel_rfl | go_simp)⟩) hb ?_
            try simp only [Act.put, List.setIfInBounds_toArray, List.set_cons_zero, List.set_cons_succ]
            refine wpAnyH_take (i := 16) (oi := { dst := some 73, op := Op.move (Operand.tmp 8), type := 3, pos := "law07.go:86", after := #[{ on := 15, ground := Ground.guard }], guard := some (15, true) }) (v := undef) rfl (by kernel_rfl) (by kernel_rfl) (by kernel_rfl) (fun _ _ _ h => h) (Or.inr ⟨by kernel_rfl, rfl⟩) hb ?_
            try simp only [Act.put, List.setIfInBounds_toArray, List.set_cons_zero, List.set_cons_succ]
            refine wpAnyH_take (i := 17) (oi := { dst := some 74, op := Op.call { callee := Callee.value (Operand.func 26), args := #[Operand.tmp 6, Operand.tmp 73], argTypes := #[64, 3] }, type := 3, pos := "law07.go:86", after := #[{ on := 16, ground := Ground.data }, { on := 15, ground := Ground.chain }, { on := 15, ground := Ground.guard }], guard := some (15, true) }) (v := undef) rfl (by kernel_rfl) (by kernel_rfl) (by kernel_rfl) (fun _ _ _ h => h) (Or.inr ⟨by kernel_rfl, rfl⟩) hb ?_
            try simp only [Act.put, List.setIfInBounds_toArray, List.set_cons_zero, List.set_cons_succ]
            refine wpAnyH_take (i := 18) (oi := { dst := some 75, op := Op.binOp BinOp.gtr 3 (Operand.tmp 74) (Operand.const (Value.int IntKind.i64 0)) 3, type := 4, pos := "law07.go:86", after := #[{ on := 17, ground := Ground.data }, { on := 15, ground := Ground.guard }], guard := some (15, true) }) (v := undef) rfl (by kernel_rfl) (by kernel_rfl) (by kernel_rfl) (fun _ _ _ h => h) (Or.inr ⟨by kernel_rfl, rfl⟩) hb ?_
            try simp only [Act.put, List.setIfInBounds_toArray, List.set_cons_zero, List.set_cons_succ]
            refine wpAnyH_take (i := 19) (oi := { dst := some 76, op := Op.pick (Operand.tmp 72) (Operand.tmp 75) (Operand.const (Value.bool false)), type := 4, pos := "law07.go:86", after := #[{ on := 15, ground := Ground.data }, { on := 18, ground := Ground.data }], guard := none }) (v := .bool false) rfl (by kernel_rfl) (by kernel_rfl) (by kernel_rfl) (fun _ _ _ h => h) (Or.inl ⟨by kernel_rfl, fun W h => (by first | kernel_rfl | go_simp)⟩) hb ?_
            try simp only [Act.put, List.setIfInBounds_toArray, List.set_cons_zero, List.set_cons_succ]
            refine wpAnyH_take (i := 20) (oi := { dst := some 10, op := Op.assign (Operand.tmp 76), type := 4, pos := "law07.go:86", after := #[{ on := 19, ground := Ground.data }, { on := 17, ground := Ground.chain }, { on := 0, ground := Ground.phase }, { on := 1, ground := Ground.phase }, { on := 2, ground := Ground.phase }, { on := 3, ground := Ground.phase }, { on := 4, ground := Ground.phase }, { on := 5, ground := Ground.phase }, { on := 6, ground := Ground.phase }, { on := 7, ground := Ground.phase }, { on := 8, ground := Ground.phase }, { on := 9, ground := Ground.phase }, { on := 10, ground := Ground.phase }, { on := 11, ground := Ground.phase }, { on := 12, ground := Ground.phase }, { on := 13, ground := Ground.phase }, { on := 14, ground := Ground.phase }, { on := 15, ground := Ground.phase }, { on := 16, ground := Ground.phase }, { on := 17, ground := Ground.phase }, { on := 18, ground := Ground.phase }, { on := 19, ground := Ground.phase }], guard := none }) (v := .bool false) rfl (by kernel_rfl) (by kernel_rfl) (by kernel_rfl) (fun _ _ _ h => h) (Or.inl ⟨by kernel_rfl, fun W h => (by first | kernel_rfl | go_simp)⟩) hb ?_
            try simp only [Act.put, List.setIfInBounds_toArray, List.set_cons_zero, List.set_cons_succ]
            refine wpAnyH_done (by kernel_rfl) ?_ _
            clear hS
            go_wp2_with fail
            go_meet
            exact ⟨by rw [unhide EN], BD⟩
          case pos =>
            have EN := hide (show nd = decide (0 < T.disk.refs (n : Int)) by rw [unhide ND]; unfold Img.onDisk; rw [hl2, show (T.disk.stamp n == T.now.stamp n) = true by simpa using hst]; simp)
            have qs : (T.disk.stamp n == T.now.stamp n) = true := by simpa using hst
            clear hst
            have RF := hide (refs_any g6 T.disk (n : Int) X9.drew (Sft.HasAt.img (unhide HD _ hb.1)))
            obtain ⟨rfi, hrfi⟩ : ∃ i : Int, i = (T.disk.refs (n : Int) : Nat) := ⟨_, rfl⟩
            rw [← hrfi] at RF
            have qr : decide (0 < rfi) = nd := by rw [unhide EN, hrfi]; simp
            clear hrfi
            refine wp_region_held_drew (S := fun V => Lif.Bk bl bf' bc' g6 cs es ds V ∧ V.heap[g9]? = some (.cells (inoC T.now n) 34)) (by kernel_rfl) (hb) (fun hS => ?_)
            refine wpAnyH_take (i := 0) (oi := { dst := some 57, op := Op.move (Operand.tmp 8), type := 3, pos := "law07.go:86", after := #[], guard := none }) (v := .int .i64 (n : Int)) rfl (by kernel_rfl) (by kernel_rfl) (by kernel_rfl) (fun _ _ _ h => h) (Or.inl ⟨by kernel_rfl, fun W h => (by first | kernel_rfl | go_simp)⟩) hb ?_
            try simp only [Act.put, List.setIfInBounds_toArray, List.set_cons_zero, List.set_cons_succ]
            refine wpAnyH_take (i := 1) (oi := { dst := some 58, op := Op.fieldAddr 44 (Operand.tmp 6) 0, type := 0, pos := "law07.go:86", after := #[], guard := none }) (v := .pointer (some ⟨g6, 0, none⟩)) rfl (by kernel_rfl) (by kernel_rfl) (by kernel_rfl) (fun _ _ _ h => h) (Or.inl ⟨by kernel_rfl, fun W h => (by first | kernel_rfl | go_simp)⟩) hb ?_
            try simp only [Act.put, List.setIfInBounds_toArray, List.set_cons_zero, List.set_cons_succ]
            refine wpAnyH_take (i := 2) (oi := { dst := some 59, op := Op.indexAddr 35 (Operand.tmp 58) (Operand.tmp 57), type := 0, pos := "law07.go:86", after := #[{ on := 1, ground := Ground.data }, { on := 0, ground := Ground.data }], guard := none }) (v := .pointer (some ⟨g6, n * 5, none⟩)) rfl (by kernel_rfl) (by kernel_rfl) (by kernel_rfl) (fun _ _ _ h => h) (Or.inl ⟨by kernel_rfl, fun W h => Lif.ix_inos (.tmp 58) (.tmp 57) (by kernel_rfl) (by kernel_rfl) (by kernel_rfl) hn8 W⟩) hb ?_
            try simp only [Act.put, List.setIfInBounds_toArray, List.set_cons_zero, List.set_cons_succ]
            refine wpAnyH_take (i := 3) (oi := { dst := some 60, op := Op.fieldAddr 34 (Operand.tmp 59) 0, type := 0, pos := "law07.go:86", after := #[{ on := 2, ground := Ground.data }], guard := none }) (v := .pointer (some ⟨g6, n * 5, none⟩)) rfl (by kernel_rfl) (by kernel_rfl) (by kernel_rfl) (fun _ _ _ h => h) (Or.inl ⟨by kernel_rfl, fun W h => (by first | kernel_rfl | go_simp)⟩) hb ?_
            try simp only [Act.put, List.setIfInBounds_toArray, List.set_cons_zero, List.set_cons_succ]
            refine wpAnyH_take (i := 4) (oi := { dst := some 61, op := Op.load 4 (Operand.tmp 60), type := 4, pos := "law07.go:86", after := #[{ on := 3, ground := Ground.data }], guard := none }) (v := .bool true) rfl (by kernel_rfl) (by kernel_rfl) (by kernel_rfl) (fun _ _ _ h => h) (Or.inl ⟨by kernel_rfl, fun W h => Lif.ld_bool (.tmp 60) (by kernel_rfl) (by kernel_rfl) W (by have := (unhide HD W h.1).live n hn8; rw [Nat.zero_add, hl2] at this; exact this)⟩) hb ?_
            try simp only [Act.put, List.setIfInBounds_toArray, List.set_cons_zero, List.set_cons_succ]
            refine wpAnyH_take (i := 5) (oi := { dst := some 62, op := Op.move (Operand.tmp 61), type := 4, pos := "law07.go:86", after := #[{ on := 4, ground := Ground.data }], guard := none }) (v := .bool true) rfl (by kernel_rfl) (by kernel_rfl) (by kernel_rfl) (fun _ _ _ h => h) (Or.inl ⟨by kernel_rfl, fun W h => (by first | kernel_rfl | go_simp)⟩) hb ?_
            try simp only [Act.put, List.setIfInBounds_toArray, List.set_cons_zero, List.set_cons_succ]
            refine wpAnyH_take (i := 6) (oi := { dst := some 63, op := Op.move (Operand.tmp 8), type := 3, pos := "law07.go:86", after := #[{ on := 5, ground := Ground.guard }], guard := some (5, true) }) (v := .int .i64 (n : Int)) rfl (by kernel_rfl) (by kernel_rfl) (by kernel_rfl) (fun _ _ _ h => h) (Or.inl ⟨by kernel_rfl, fun W h => (by first | kernel_rfl | go_simp)⟩) hb ?_
            try simp only [Act.put, List.setIfInBounds_toArray, List.set_cons_zero, List.set_cons_succ]
            refine wpAnyH_take (i := 7) (oi := { dst := some 64, op := Op.fieldAddr 44 (Operand.tmp 6) 0, type := 0, pos := "law07.go:86", after := #[{ on := 5, ground := Ground.guard }], guard := some (5, true) }) (v := .pointer (some ⟨g6, 0, none⟩)) rfl (by kernel_rfl) (by kernel_rfl) (by kernel_rfl) (fun _ _ _ h => h) (Or.inl ⟨by kernel_rfl, fun W h => (by first | kernel_rfl | go_simp)⟩) hb ?_
            try simp only [Act.put, List.setIfInBounds_toArray, List.set_cons_zero, List.set_cons_succ]
            refine wpAnyH_take (i := 8) (oi := { dst := some 65, op := Op.indexAddr 35 (Operand.tmp 64) (Operand.tmp 63), type := 0, pos := "law07.go:86", after := #[{ on := 7, ground := Ground.data }, { on := 6, ground := Ground.data }, { on := 5, ground := Ground.guard }], guard := some (5, true) }) (v := .pointer (some ⟨g6, n * 5, none⟩)) rfl (by kernel_rfl) (by kernel_rfl) (by kernel_rfl) (fun _ _ _ h => h) (Or.inl ⟨by kernel_rfl, fun W h => Lif.ix_inos (.tmp 64) (.tmp 63) (by kernel_rfl) (by kernel_rfl) (by kernel_rfl) hn8 W⟩) hb ?_
            try simp only [Act.put, List.setIfInBounds_toArray, List.set_cons_zero, List.set_cons_succ]
            refine wpAnyH_take (i := 9) (oi := { dst := some 66, op := Op.fieldAddr 34 (Operand.tmp 65) 1, type := 0, pos := "law07.go:86", after := #[{ on := 8, ground := Ground.data }, { on := 5, ground := Ground.guard }], guard := some (5, true) }) (v := .pointer (some ⟨g6, n * 5 + 1, none⟩)) rfl (by kernel_rfl) (by kernel_rfl) (by kernel_rfl) (fun _ _ _ h => h) (Or.inl ⟨by kernel_rfl, fun W h => (by first | kernel_rfl | go_simp)⟩) hb ?_
            try simp only [Act.put, List.setIfInBounds_toArray, List.set_cons_zero, List.set_cons_succ]
            refine wpAnyH_take (i := 10) (oi := { dst := some 67, op := Op.load 3 (Operand.tmp 66), type := 3, pos := "law07.go:86", after := #[{ on := 9, ground := Ground.data }, { on := 5, ground := Ground.guard }], guard := some (5, true) }) (v := .int .i64 (T.disk.stamp n)) rfl (by kernel_rfl) (by kernel_rfl) (by kernel_rfl) (fun _ _ _ h => h) (Or.inl ⟨by kernel_rfl, fun W h => Lif.ld_int (.tmp 66) (by kernel_rfl) (by kernel_rfl) W (by have := (unhide HD W h.1).stamp n hn8; rw [Nat.zero_add] at this; exact this)⟩) hb ?_
            try simp only [Act.put, List.setIfInBounds_toArray, List.set_cons_zero, List.set_cons_succ]
            refine wpAnyH_take (i := 11) (oi := { dst := some 68, op := Op.fieldAddr 34 (Operand.tmp 9) 1, type := 0, pos := "law07.go:86", after := #[{ on := 5, ground := Ground.guard }], guard := some (5, true) }) (v := .pointer (some ⟨g9, 1, none⟩)) rfl (by kernel_rfl) (by kernel_rfl) (by kernel_rfl) (fun _ _ _ h => h) (Or.inl ⟨by kernel_rfl, fun W h => (by first | kernel_rfl | go_simp)⟩) hb ?_
            try simp only [Act.put, List.setIfInBounds_toArray, List.set_cons_zero, List.set_cons_succ]
            refine wpAnyH_take (i := 12) (oi := { dst := some 69, op := Op.load 3 (Operand.tmp 68), type := 3, pos := "law07.go:86", after := #[{ on := 11, ground := Ground.data }, { on := 5, ground := Ground.guard }], guard := some (5, true) }) (v := .int .i64 (T.now.stamp n)) rfl (by kernel_rfl) (by kernel_rfl) (by kernel_rfl) (fun _ _ _ h => h) (Or.inl ⟨by kernel_rfl, fun W h => Lif.ld_int (.tmp 68) (by kernel_rfl) (by kernel_rfl) W (Lif.inoC_cells h.2).2.1⟩) hb ?_
            try simp only [Act.put, List.setIfInBounds_toArray, List.set_cons_zero, List.set_cons_succ]
            refine wpAnyH_take (i := 13) (oi := { dst := some 70, op := Op.binOp BinOp.eql 3 (Operand.tmp 67) (Operand.tmp 69) 3, type := 4, pos := "law07.go:86", after := #[{ on := 10, ground := Ground.data }, { on := 12, ground := Ground.data }, { on := 5, ground := Ground.guard }], guard := some (5, true) }) (v := .bool true) rfl (by kernel_rfl) (by kernel_rfl) (by kernel_rfl) (fun _ _ _ h => h) (Or.inl ⟨by kernel_rfl, fun W h => Lif.eqib (.tmp 67) (.tmp 69) (by kernel_rfl) (by kernel_rfl) (by kernel_rfl) qs W⟩) hb ?_
            try simp only [Act.put, List.setIfInBounds_toArray, List.set_cons_zero, List.set_cons_succ]
            refine wpAnyH_take (i := 14) (oi := { dst := some 71, op := Op.pick (Operand.tmp 62) (Operand.tmp 70) (Operand.const (Value.bool false)), type := 4, pos := "law07.go:86", after := #[{ on := 5, ground := Ground.data }, { on := 13, ground := Ground.data }], guard := none }) (v := .bool true) rfl (by kernel_rfl) (by kernel_rfl) (by kernel_rfl) (fun _ _ _ h => h) (Or.inl ⟨by kernel_rfl, fun W h => (by first | kernel_rfl | go_simp)⟩) hb ?_
            try simp only [Act.put, List.setIfInBounds_toArray, List.set_cons_zero, List.set_cons_succ]
            refine wpAnyH_take (i := 15) (oi := { dst := some 72, op := Op.move (Operand.tmp 71), type := 4, pos := "law07.go:86", after := #[{ on := 14, ground := Ground.data }, { on := 5, ground := Ground.chain }], guard := none }) (v := .bool true) rfl (by kernel_rfl) (by kernel_rfl) (by kernel_rfl) (fun _ _ _ h => h) (Or.inl ⟨by kernel_rfl, fun W h => (by first | kernel_rfl | go_simp)⟩) hb ?_
            try simp only [Act.put, List.setIfInBounds_toArray, List.set_cons_zero, List.set_cons_succ]
            refine wpAnyH_take (i := 16) (oi := { dst := some 73, op := Op.move (Operand.tmp 8), type := 3, pos := "law07.go:86", after := #[{ on := 15, ground := Ground.guard }], guard := some (15, true) }) (v := .int .i64 (n : Int)) rfl (by kernel_rfl) (by kernel_rfl) (by kernel_rfl) (fun _ _ _ h => h) (Or.inl ⟨by kernel_rfl, fun W h => (by first | kernel_rfl | go_simp)⟩) hb ?_
            try simp only [Act.put, List.setIfInBounds_toArray, List.set_cons_zero, List.set_cons_succ]
            refine wpAnyH_ready (rs := [17]) (by kernel_rfl) (by simp) ?_
            refine AllReadyH.cons (o := { dst := some 74, op := Op.call { callee := Callee.value (Operand.func 26), args := #[Operand.tmp 6, Operand.tmp 73], argTypes := #[64, 3] }, type := 3, pos := "law07.go:86", after := #[{ on := 16, ground := Ground.data }, { on := 15, ground := Ground.chain }, { on := 15, ground := Ground.guard }], guard := some (15, true) }) rfl (fun K hK => ?_) AllReadyH.nil
            rw [if_pos (by kernel_rfl)]
            go_simp
            refine (unhide RF).mono ?_
            rintro e wq ⟨rfl, e9⟩
            rw [e9]
            clear e9 wq
            go_wp2_with fail
            refine hK.out _ _ (hb) (fun hS2 => ?_)
            clear hK K
            try simp only [Act.put, List.setIfInBounds_toArray, List.set_cons_zero, List.set_cons_succ]
            refine wpAnyH_take (i := 18) (oi := { dst := some 75, op := Op.binOp BinOp.gtr 3 (Operand.tmp 74) (Operand.const (Value.int IntKind.i64 0)) 3, type := 4, pos := "law07.go:86", after := #[{ on := 17, ground := Ground.data }, { on := 15, ground := Ground.guard }], guard := some (15, true) }) (v := .bool nd) rfl (by kernel_rfl) (by kernel_rfl) (by kernel_rfl) (fun _ _ _ h => h) (Or.inl ⟨by kernel_rfl, fun W h => Lif.gtr0b (.tmp 74) (by kernel_rfl) (by kernel_rfl) (by kernel_rfl) qr W⟩) hS2 ?_
            try simp only [Act.put, List.setIfInBounds_toArray, List.set_cons_zero, List.set_cons_succ]
            refine wpAnyH_take (i := 19) (oi := { dst := some 76, op := Op.pick (Operand.tmp 72) (Operand.tmp 75) (Operand.const (Value.bool false)), type := 4, pos := "law07.go:86", after := #[{ on := 15, ground := Ground.data }, { on := 18, ground := Ground.data }], guard := none }) (v := .bool nd) rfl (by kernel_rfl) (by kernel_rfl) (by kernel_rfl) (fun _ _ _ h => h) (Or.inl ⟨by kernel_rfl, fun W h => (by first | kernel_rfl | go_simp)⟩) hS2 ?_
            try simp only [Act.put, List.setIfInBounds_toArray, List.set_cons_zero, List.set_cons_succ]
            refine wpAnyH_take (i := 20) (oi := { dst := some 10, op := Op.assign (Operand.tmp 76), type := 4, pos := "law07.go:86", after := #[{ on := 19, ground := Ground.data }, { on := 17, ground := Ground.chain }, { on := 0, ground := Ground.phase }, { on := 1, ground := Ground.phase }, { on := 2, ground := Ground.phase }, { on := 3, ground := Ground.phase }, { on := 4, ground := Ground.phase }, { on := 5, ground := Ground.phase }, { on := 6, ground := Ground.phase }, { on := 7, ground := Ground.phase }, { on := 8, ground := Ground.phase }, { on := 9, ground := Ground.phase }, { on := 10, ground := Ground.phase }, { on := 11, ground := Ground.phase }, { on := 12, ground := Ground.phase }, { on := 13, ground := Ground.phase }, { on := 14, ground := Ground.phase }, { on := 15, ground := Ground.phase }, { on := 16, ground := Ground.phase }, { on := 17, ground := Ground.phase }, { on := 18, ground := Ground.phase }, { on := 19, ground := Ground.phase }], guard := none }) (v := .bool nd) rfl (by kernel_rfl) (by kernel_rfl) (by kernel_rfl) (fun _ _ _ h => h) (Or.inl ⟨by kernel_rfl, fun W h => (by first | kernel_rfl | go_simp)⟩) hS2 ?_
            try simp only [Act.put, List.setIfInBounds_toArray, List.set_cons_zero, List.set_cons_succ]
            refine wpAnyH_done (by kernel_rfl) ?_ _
            clear hS hS2
            go_wp2_with fail
            go_meet
            exact ⟨rfl, BD⟩
        case rest =>
          obtain ⟨rfl, BC⟩ := hcut
          have B10 := hide (show Below X6.heap.size X6 wc from (unhide B9).trans ((unhide BC).mono (unhide B9).size))
          have OW10 := hide (Lif.ownBlock_keep (unhide OW9) fun g hg => (unhide BC).block g ((unhide OW9).lt g hg).2)
          have S10 := hide ((unhide S9).below (unhide BC))
          have R10 := hide (show wc.heap[g9]? = some (.cells (inoC T.now n) 34) by rw [(unhide BC).block _ (Array.getElem?_eq_some_iff.1 (unhide RA)).1]; exact unhide RA)
          clear B9 OW9 HB9 S9 RA BC e0 e1
          have e1 := (Lif.inoC_cells (unhide R10)).2.1
          have IN := hide (Lif.In_any (unhide S10).own (by omega) (T.now.stamp n))
          have KK := hide (show Lif.inL sl (T.now.stamp n) = true → nd = true from fun h => by rw [unhide ND]; exact unhide SST n hn8 (unhide HLV) (Lif.inL_iff.1 h))
          generalize Lif.inL sl (T.now.stamp n) = ib at IN KK
          cases nd
          case false =>
            have hib : ib = false := by
              cases ib
              · rfl
              · exact absurd (unhide KK rfl) (by simp)
            subst hib
            have E1 := hide (show Img.safeTo T.now T.disk (n + 1) = Img.safeTo T.now T.disk n from if_neg (fun z => by rw [← unhide ND] at z; cases z.2))
            go_wp2_with fail
            refine (unhide IN).mono ?_
            rintro e wq ⟨rfl, e9⟩
            rw [e9]
            clear e9 wq IN
            go_wp2_with fail
            go_roundw
            case rel => exact ⟨n + 1, by omega, by go_num, B10, by rw [unhide E1]; exact OW10⟩
            case measure => simp [intOf]; omega
          have E1 := hide (show Img.safeTo T.now T.disk (n + 1) = Img.safeTo T.now T.disk n ++ [T.now.stamp n] from if_pos ⟨unhide HLV, (unhide ND).symm⟩)
          have LE := Img.safe_len T.now T.disk n
          obtain ⟨i0, hi0, hz0, hz1, hz2⟩ := Lif.int_info
          generalize Img.safeTo T.now T.disk n = nl at OW10 E1 LE
          generalize T.now.stamp n = st at e1 E1 IN
          cases ib
          case false =>
            go_wp2_with fail
            refine (unhide IN).mono ?_
            rintro e wq ⟨rfl, e9⟩
            rw [e9]
            clear e9 wq IN KK
            go_wp2_with (at_builtin; refine wpList_append_own _ rfl _ _ 65 rfl X6.heap.size 3 i0 _ 1 8 Tryz.underlying65 hi0 hz0 hz1 hz2 rfl (by omega) _ nl.length _ rfl ((unhide OW10).alloc _) ⟨_, 0, none⟩ 1 1 [.int .i64 st] rfl rfl (Idl.one_new _ _ _ _ (by simp)) (Lif.one_int st) (by unfold maxLen; omega) (by omega) (by have := (unhide B10).size; simp; omega) ?_; intro v' w2 ho2 hg2 _)
            go_roundw
            case rel =>
              refine ⟨n + 1, by omega, by go_num, ?_, ?_⟩
              · have hB2 := (unhide B10).alloc (unhide B10).size (.cells #[.int .i64 st] 3)
                exact hide (hB2.grown hg2 hB2.size (fun j hj => ((unhide OW10).lt j hj).1))
              · rw [unhide E1]
                have hh : (nl ++ [st]).length = nl.length + 1 := by simp
                rw [hh, show Lif.ints (nl ++ [st]) = Lif.ints nl ++ [.int .i64 st] by simp [Lif.ints]]
                exact hide ho2
            case measure => simp [intOf]; omega
          case true =>
            go_wp2_with fail
            refine (unhide IN).mono ?_
            rintro e wq ⟨rfl, e9⟩
            rw [e9]
            clear e9 wq IN KK
            go_wp2_with (at_builtin; refine wpList_append_own _ rfl _ _ 65 rfl X6.heap.size 3 i0 _ 1 8 Tryz.underlying65 hi0 hz0 hz1 hz2 rfl (by omega) _ nl.length _ rfl ((unhide OW10).alloc _) ⟨_, 0, none⟩ 1 1 [.int .i64 st] rfl rfl (Idl.one_new _ _ _ _ (by simp)) (Lif.one_int st) (by unfold maxLen; omega) (by omega) (by have := (unhide B10).size; simp; omega) ?_; intro v' w2 ho2 hg2 _)
            go_roundw
            case rel =>
              refine ⟨n + 1, by omega, by go_num, ?_, ?_⟩
              · have hB2 := (unhide B10).alloc (unhide B10).size (.cells #[.int .i64 st] 3)
                exact hide (hB2.grown hg2 hB2.size (fun j hj => ((unhide OW10).lt j hj).1))
              · rw [unhide E1]
                have hh : (nl ++ [st]).length = nl.length + 1 := by simp
                rw [hh, show Lif.ints (nl ++ [st]) = Lif.ints nl ++ [.int .i64 st] by simp [Lif.ints]]
                exact hide ho2
            case measure => simp [intOf]; omega
      have t8 : decide ((n : Int) < 8) = false := by simp; omega
      have e8 : n = 8 := by omega
      subst e8
      have NSAF := hide (show Lif.Saf bl bf' bc' u7 (Img.safeTo T.now T.disk 8) wr from ⟨Lif.own0 (unhide OW), fun g hg => by
        have h1 := ((unhide OW).lt g hg).1
        have h2 := (unhide H6).lt
        have h3 := (unhide H6).fo.cells.2.1
        have h4 := (unhide H6).fo.cells.2.2.1
        omega⟩)
      have e0 : wr.cell? ⟨ga, oa + j * 7, none⟩ = some (.int .i64 x.kind) := unhide HCA wr (unhide H1).bel 0 _ rfl
      clear OW BR HB1
      by_cases h9 : x.kind = 9
      case neg =>
        have k9 : (x.kind == 9) = false := by simpa using h9
        go_wp2_with (first | (refine wpList_value rfl (Lif.ix_step (c := c) _ _ rfl (g := ga) (q := oa) (n := L.length) (j := j) rfl rfl hlt _) ?_))
        go_roundw
        case rel => exact ⟨j + 1, bf', bc', T, by omega, by go_num, H1, K1, NSAF⟩
        case measure => simp [intOf]; omega
      have k9 : (x.kind == 9) = true := by simpa using h9
      have CR := hide fun s => unhide SCR s h9
      clear h9
      go_wp2_with (first | (refine wpList_value rfl (Lif.ix_step (c := c) _ _ rfl (g := ga) (q := oa) (n := L.length) (j := j) rfl rfl hlt _) ?_))
      rcases Lif.nums_cell (unhide S1).own with ⟨rfl, esl⟩ | ⟨g4, c4, rfl, _, gl4, k4⟩
      · go_loopw [11] (fun i w' => i = .int .i64 0 ∧ w' = wr) (fun _ _ => 0)
        case atStart => exact ⟨rfl, rfl⟩
        case round =>
          rename_i wz
          obtain ⟨rfl, rfl⟩ := hrel
          go_wp2_with fail
          go_roundw
          case rel => exact ⟨j + 1, bf', bc', T, by omega, by go_num, H1, K1, NSAF⟩
          case measure => simp [intOf]; omega
      · have K4 := hide k4
        clear k4
        go_loopw [11] (fun i w' => ∃ q : Nat, q ≤ sl.length ∧ i = .int .i64 q ∧ w' = wr) (fun i _ => sl.length - (intOf i).toNat)
        case atStart => exact ⟨0, Nat.zero_le _, rfl, rfl⟩
        case round =>
          rename_i wz
          obtain ⟨q, hq, rfl, rfl⟩ := hrel
          by_cases hql : q < sl.length
          case pos =>
            have hz : (q : Int) < (sl.length : Int) := by omega
            have d4 := unhide K4 q hql
            have mm : sl[q] ∈ sl := List.getElem_mem hql
            have IN := hide (Lif.In_any (unhide NSAF).own (by have := Img.safe_len T.now T.disk 8; omega) sl[q])
            rw [Lif.inL_iff.2 (unhide CR _ mm)] at IN
            generalize sl[q] = y at d4 IN
            clear mm
            go_wp2_with fail
            refine (unhide IN).mono ?_
            rintro e wq ⟨rfl, e9⟩
            rw [e9]
            clear e9 wq IN
            go_wp2_with fail
            go_roundw
            case rel => exact ⟨q + 1, by omega, by go_num, by first | rfl | trivial⟩
            case measure => simp [intOf]; omega
          go_wp2_with fail
          go_roundw
          case rel => exact ⟨j + 1, bf', bc', T, by omega, by go_num, H1, K1, NSAF⟩
          case measure => simp [intOf]; omega
end Go.Proofs.YtmbpckmpnnmnmacGreat
namespace Go.Proofs.YtmbpckmpnnmnmacGreat
open Go.ChangeShapes Go.WideShapes Go.ChangeAt Go.RowKit
open Idl (open_steps Steps)
namespace Lif
set_option maxRecDepth 100000 in
theorem lifeKeeps_lifted (os : Os) (started : os.Started) (H : Type) (enc : TypeId × Value → H) :
    ReturnsInHanded {} Tryz.checked os 5 .any (Rows.lifeKeepsSpec.pre6 enc Tryz.prog Tryz.f5 Rows.lifeKeepsRow.domain false) (Rows.lifeKeepsSpec.post enc Tryz.prog Tryz.f5 false true false false) := by
  refine returnsInHanded_of_change_sized (C := Tryz.checked) Idl.TryI.own started (by kernel_rfl) Tryz.func5
    (ChangeSpec.witness6 (enc := enc) (C := Tryz.checked) false ⟨#[], #[.slice none 0 0], []⟩ 8 (by kernel_rfl) (by kernel_rfl) (by kernel_rfl) (by kernel_rfl)) ?_
  intro W base args ds gs before hval0 hW _ hsz0 _
  have hsz : (DataW.weightsEach Tryz.prog (Tryz.f5.params.toList ++ Rows.lifeKeepsSpec.plain.varTypes Tryz.prog) (ds ++ gs)).all (· ≤ reachBytes) = true := hsz0
  clear hsz0
  have hval : ∀ (j : Nat) t v, Tryz.f5.params[j]? = some t → args[j]? = some v → Value.okWide Tryz.prog W .any base t v := hval0
  have hW' := hW
  obtain ⟨p, q, hA0, hV, rfl, _, _⟩ := hW
  have hA : DataW.TrodAll enc Tryz.prog W 0 (fun _ => true) true Tryz.f5.params.toList args.toList ds p := hA0
  rw [Tryz.params5] at hA hval hsz
  obtain ⟨v0, d0, rfl, rfl, h0⟩ := trodAll_one hA
  obtain ⟨rfl, rfl⟩ := trodVars_none hV
  obtain ⟨a0, len, cap, rfl⟩ := okWide_slice Tryz.underlying22 (hval 0 22 v0 rfl rfl)
  have lt0 : ∀ y ∈ p, y.block < W.heap.size := by obtain ⟨n, hn⟩ := h0; exact DataW.trod_lt n _ _ _ hn
  clear hA0 hval0
  have w0 : ∀ n ∈ d0.weights Tryz.prog 22, n ≤ reachBytes := fun n hn => by
    simpa using List.all_eq_true.1 hsz _ (DataW.weights_mem_each (j := 0) (t := 22) (d := d0) rfl rfl n hn)
  obtain ⟨L, hL⟩ := open_steps h0 w0
  refine (lifeKeeps_any hL).mono fun e W' ⟨he, bel⟩ => ?_
  subst he
  exact ⟨_, rfl, _, _, _, [], _, [], hW', trodAll_mk1 (shut_bool Tryz.underlying4 _), (trodAll_cons_mk (Below.trod Idl.TryI.laidOut (by kernel_rfl) (of_decide_eq_true (by kernel_rfl)) h0 bel lt0) trodAll_mk0), rfl, bel.frame _, fun h => by cases h⟩
end Lif
theorem lifeKeeps_holds : Rows.LifeKeepsSaid :=
  OpenClaim.holds_of_wide 5 Tryz.f5 rfl rfl rfl rfl rfl rfl rfl ⟨rfl, rfl, rfl, rfl, rfl⟩ rfl rfl rfl rfl rfl (by kernel_rfl) Tryz.func5 (by kernel_rfl)
    (of_decide_eq_true (by kernel_rfl)) (by unfold Func.isWrapper; first | (rw [if_pos (by decide +kernel)]; kernel_rfl) | (rw [if_neg (by decide +kernel)]; exact ⟨rfl, rfl⟩))
    (fun os started H enc _ => Lif.lifeKeeps_lifted os started H enc)
#print axioms lifeKeeps_holds
end Go.Proofs.YtmbpckmpnnmnmacGreat
