/-
  The law LifeMends: its walk. (Written by genhf.py.)
-/
import Derived.Test.YtmbpckmpnnmnmacGreatYx
import Derived.Test.YtmbpckmpnnmnmacGreatYr
import Derived.Test.YtmbpckmpnnmnmacGreatYy
import Derived.Test.YtmbpckmpnnmnmacGreatYm
namespace Go.Proofs.YtmbpckmpnnmnmacGreat
open Go.RowKit
open Idl (Stp chk stpA)
set_option maxHeartbeats 8000000 in
set_option maxRecDepth 100000 in
theorem lifeMends_any {w : World} {v : Value} {L : List Stp} (hs : Idl.Steps w v L) :
    Calls Tryz.prog 4 #[v] w fun e w' => e = .returned (.bool true) ∧ Below w.heap.size w w' := by
  have z := zero_img.1
  have hbg := Lif.begun_any w
  have HG := hide fun W (bW : Below w.heap.size w W) => Idl.greatSteps_any (hs.below bW)
  have HOk := hide hs.ok
  have hgl : Idl.greats L = false → L.length ≤ 200 := fun h => by
    simp only [Idl.greats, Bool.or_eq_false_iff, decide_eq_false_iff_not] at h
    omega
  have HGL := hide hgl
  obtain ⟨a, c, rfl, hst⟩ := Sft.Steps.gen hs
  have HST := hide hst
  clear hs hgl hst
  go_enter Tryz.func4, Tryz.ntmps4
  go_wp2_with fail
  refine hbg.mono ?_
  rintro e w1 ⟨rfl, b1⟩
  have B1 := hide b1
  have hg := unhide HG w1 b1
  clear b1 hbg
  cases hgr : Idl.greats L <;> rw [hgr] at hg
  case true =>
    clear hgr
    go_wp2_with fail
    refine hg.mono ?_
    rintro e w2 ⟨rfl, b2⟩
    have B2 := hide ((unhide B1).trans (b2.mono (unhide B1).size))
    clear b2 hg
    go_wp2_with fail
    go_ret
    exact ⟨rfl, unhide B2⟩
  have h200 := unhide HGL hgr
  clear hgr HGL HG
  go_wp2_with fail
  refine hg.mono ?_
  rintro e w2 ⟨rfl, b2⟩
  have B2 := hide ((unhide B1).trans (b2.mono (unhide B1).size))
  clear b2 hg B1
  go_wp2_with fail
  refine (lNew_any w (unhide B2)).mono ?_
  rintro e w3 ⟨bl, bf0, bc0, rfl, _, _, _, h3, _⟩
  have H3 := hide h3
  clear h3 B2
  go_wp2_with fail
  go_loopw [4] (fun i wr => ∃ (j bf bc : Nat) (S : Lv), j ≤ L.length ∧ i = .int .i64 j ∧ Hid (Lo w bl bf bc S wr) ∧ Hid (S.Ok j)) (fun i _ => L.length - (intOf i).toNat)
  case atStart => exact ⟨0, bf0, bc0, Lv.new, Nat.zero_le _, rfl, H3, hide Lv.Ok.start⟩
  case round =>
    clear H3
    obtain ⟨j, bf, bc, S, hj, rfl, HF, HK⟩ := hrel
    by_cases hlt : j < L.length
    case pos =>
      have hjn : (j : Int) < (L.length : Int) := by omega
      obtain ⟨ga, oa, rfl, hga, hca⟩ := unhide HST j hlt
      have hxo := unhide HOk L[j] (List.getElem_mem hlt)
      generalize L[j] = x at hca hxo
      have HXO := hide hxo.big
      have HCA := hide hca
      have S0 := unhide HCA _ (unhide HF).bel
      have D := hide (lStep_any (unhide HF) (unhide HK) (by omega) x (unhide HXO).1 (unhide HXO).2.1 (unhide HXO).2.2)
      have K1 := hide ((unhide HK).any x)
      clear hca hxo HST HOk hga
      go_wp2_with (first | (refine wpList_value rfl (Lif.ix_step (c := c) _ _ rfl (g := ga) (q := oa) (n := L.length) (j := j) rfl rfl hlt _) ?_) | (refine wpList_value rfl (Lif.ld_step _ rfl rfl x _ S0) ?_))
      refine (unhide D).mono ?_
      rintro e w4 ⟨rfl, bf', bc', h4, _⟩
      have H4 := hide h4
      have DK := hide h4.fo.dsk
      have q0 := h4.ptr
      have q1 := h4.ptr2
      have HD := hide (unhide K1).hold.ok
      clear h4 D S0 HF
      go_wp2_with fail
      refine (unhide DK).mono ?_
      rintro e w5 ⟨⟨ds, rfl, hds⟩, b5⟩
      have H5 := hide ((unhide H4).call b5)
      clear b5 DK H4 q0 q1
      have s1 := hide (heap_alloc_last w5 (.cells zeroCells 44))
      have BA := hide (below_setRow ((Below.refl w5.heap.size w5).alloc (Nat.le_refl _) (.cells zeroCells 44)) (Nat.le_refl w5.heap.size) ds)
      have RA := hide (setRow_heap (w5.alloc (.cells zeroCells 44)) w5.heap.size _ ds _ _ (heap_alloc_last w5 (.cells zeroCells 44)))
      go_wp2_with ((have hx := unhide s1; refine wpList_store_row rfl 44 _ _ rfl w5.heap.size ds rfl rfl 44 zeroCells hx (img_info (hds).size) (zero_size hds) (hds).all ?_; clear hx s1; generalize (w5.alloc (.cells zeroCells 44)).setRow w5.heap.size ds = X6 at BA RA ⊢))
      have H6 := hide ((unhide H5).call (unhide BA))
      have HI := hide (hasAt_of (unhide RA) (o := 0) (by rw [hds.size]; omega) (by rw [Nat.zero_add, show 94 = ds.size from hds.size.symm]; simp) hds)
      have CK := hide (check_any w5.heap.size (S.step x).disk X6 (Sft.HasAt.img (unhide HI)))
      rw [unhide HD] at CK
      refine (unhide CK).mono ?_
      rintro e w7 ⟨rfl, b7⟩
      have H7 := hide ((unhide H6).call b7)
      have R7 := hide (show w7.heap[w5.heap.size]? = some (.cells ds 44) by rw [b7.block _ (Array.getElem?_eq_some_iff.1 (unhide RA)).1]; exact unhide RA)
      have FA := hide (fault_any w5.heap.size (S.step x).disk w7 (Sft.HasAt.img (hasAt_of (unhide R7) (o := 0) (by rw [hds.size]; omega) (by rw [Nat.zero_add, show 94 = ds.size from hds.size.symm]; simp) hds)))
      clear b7 CK H5 H6 HI RA BA
      go_wp2_with fail
      refine (unhide FA).mono ?_
      rintro e w8 ⟨⟨c0, rfl, hc0⟩, b8⟩
      have c0z : c0 = 0 := hc0.2 (unhide HD)
      subst c0z
      have H8 := hide ((unhide H7).call b8)
      have e0 : w8.cell? ⟨ga, oa + j * 7, none⟩ = some (.int .i64 x.kind) := unhide HCA w8 (unhide H8).bel 0 _ rfl
      clear b8 hc0 FA H7 R7
      by_cases h9 : x.kind = 9
      case pos =>
        have k9 : (x.kind == 9) = true := by simpa using h9
        have kc := (S.step_nine h9).2
        rw [kc]
        go_wp2_with (first | (refine wpList_value_g rfl (Lif.ix_step (c := c) _ _ rfl (g := ga) (q := oa) (n := L.length) (j := j) rfl rfl hlt _) ?_))
        go_roundw
        case rel => exact ⟨j + 1, bf', bc', _, by omega, by go_num, H8, K1⟩
        case measure => simp [intOf]; omega
      have k9 : (x.kind == 9) = false := by simpa using h9
      go_wp2_with (first | (refine wpList_value_g rfl (Lif.ix_step (c := c) _ _ rfl (g := ga) (q := oa) (n := L.length) (j := j) rfl rfl hlt _) ?_))
      go_roundw
      case rel => exact ⟨j + 1, bf', bc', _, by omega, by go_num, H8, K1⟩
      case measure => simp [intOf]; omega
    go_wp2_with fail
    go_ret
    exact ⟨rfl, (unhide HF).bel⟩
end Go.Proofs.YtmbpckmpnnmnmacGreat
namespace Go.Proofs.YtmbpckmpnnmnmacGreat
open Go.ChangeShapes Go.WideShapes Go.ChangeAt Go.RowKit
open Idl (open_steps Steps)
namespace Lif
set_option maxRecDepth 100000 in
theorem lifeMends_lifted (os : Os) (started : os.Started) (H : Type) (enc : TypeId × Value → H) :
    ReturnsInHanded {} Tryz.checked os 4 .any (Rows.lifeMendsSpec.pre6 enc Tryz.prog Tryz.f4 Rows.lifeMendsRow.domain false) (Rows.lifeMendsSpec.post enc Tryz.prog Tryz.f4 false true false false) := by
  refine returnsInHanded_of_change_sized (C := Tryz.checked) Idl.TryI.own started (by kernel_rfl) Tryz.func4
    (ChangeSpec.witness6 (enc := enc) (C := Tryz.checked) false ⟨#[], #[.slice none 0 0], []⟩ 8 (by kernel_rfl) (by kernel_rfl) (by kernel_rfl) (by kernel_rfl)) ?_
  intro W base args ds gs before hval0 hW _ hsz0 _
  have hsz : (DataW.weightsEach Tryz.prog (Tryz.f4.params.toList ++ Rows.lifeMendsSpec.plain.varTypes Tryz.prog) (ds ++ gs)).all (· ≤ reachBytes) = true := hsz0
  clear hsz0
  have hval : ∀ (j : Nat) t v, Tryz.f4.params[j]? = some t → args[j]? = some v → Value.okWide Tryz.prog W .any base t v := hval0
  have hW' := hW
  obtain ⟨p, q, hA0, hV, rfl, _, _⟩ := hW
  have hA : DataW.TrodAll enc Tryz.prog W 0 (fun _ => true) true Tryz.f4.params.toList args.toList ds p := hA0
  rw [Tryz.params4] at hA hval hsz
  obtain ⟨v0, d0, rfl, rfl, h0⟩ := trodAll_one hA
  obtain ⟨rfl, rfl⟩ := trodVars_none hV
  obtain ⟨a0, len, cap, rfl⟩ := okWide_slice Tryz.underlying22 (hval 0 22 v0 rfl rfl)
  have lt0 : ∀ y ∈ p, y.block < W.heap.size := by obtain ⟨n, hn⟩ := h0; exact DataW.trod_lt n _ _ _ hn
  clear hA0 hval0
  have w0 : ∀ n ∈ d0.weights Tryz.prog 22, n ≤ reachBytes := fun n hn => by
    simpa using List.all_eq_true.1 hsz _ (DataW.weights_mem_each (j := 0) (t := 22) (d := d0) rfl rfl n hn)
  obtain ⟨L, hL⟩ := open_steps h0 w0
  refine (lifeMends_any hL).mono fun e W' ⟨he, bel⟩ => ?_
  subst he
  exact ⟨_, rfl, _, _, _, [], _, [], hW', trodAll_mk1 (shut_bool Tryz.underlying4 _), (trodAll_cons_mk (Below.trod Idl.TryI.laidOut (by kernel_rfl) (of_decide_eq_true (by kernel_rfl)) h0 bel lt0) trodAll_mk0), rfl, bel.frame _, fun h => by cases h⟩
end Lif
theorem lifeMends_holds : Rows.LifeMendsSaid :=
  OpenClaim.holds_of_wide 4 Tryz.f4 rfl rfl rfl rfl rfl rfl rfl ⟨rfl, rfl, rfl, rfl, rfl⟩ rfl rfl rfl rfl rfl (by kernel_rfl) Tryz.func4 (by kernel_rfl)
    (of_decide_eq_true (by kernel_rfl)) (by unfold Func.isWrapper; first | (rw [if_pos (by decide +kernel)]; kernel_rfl) | (rw [if_neg (by decide +kernel)]; exact ⟨rfl, rfl⟩))
    (fun os started H enc _ => Lif.lifeMends_lifted os started H enc)
#print axioms lifeMends_holds
end Go.Proofs.YtmbpckmpnnmnmacGreat
