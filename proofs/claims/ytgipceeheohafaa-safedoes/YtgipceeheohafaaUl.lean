/-
  The walk of eiderdownlaw.SafeDoes.
-/
import Derived.Test.YtgipceeheohafaaUh
import Derived.Test.YtgipceeheohafaaTg
import Derived.RegionTactic
import Derived.BigRegion
import Derived.Deep.RegionHeld
import Derived.Deep.DeepCutAuto
import Derived.Deep.Cut
import Derived.Deep.CutRange
namespace Go.Proofs.Ytgipceeheohafaa
open Go.RowKit
theorem Boxes.args3 (w : World) (a b : Array Value) : Boxes w ((w.alloc (.cells a 34)).alloc (.cells b 34)) [(w.heap.size + 1, b), (w.heap.size, a)] := by
  have h := ((Boxes.start w).box a).box b
  have e : (w.alloc (.cells a 34)).heap.size = w.heap.size + 1 := by simp
  rw [e] at h
  exact h
theorem run_exec_load_row {P : Program} {o : Oper} {ρ : Operand → Value} (ty : TypeId) (x : Operand) (ho : o.op = .load ty x) (g : Nat) (hx : ρ x = .pointer (some ⟨g, 0, none⟩)) (w : World) (t : TypeId) (cs : Array Value) (fr : Nat × Nat) (d : TypeDesc)
    (hg : w.heap[g]? = some (.cells cs t fr)) (hu : P.underlying ty = some d) (hd : (match d with | .struct _ | .array _ _ => true | _ => false) = true) (hi : (P.info? ty).map (·.size) = some cs.size) :
    (execOp ρ o).run P w = .ok (.value (.agg cs)) w := by
  unfold execOp
  simp only [ho, hx, Instr.loadAt, Instr.sureAddr, Sem.run_bind, Sem.run_pure, Result.andThen_ok, run_loadVar_row w g t ty cs fr d hg hu hd hi]
theorem small_mod (n c : Int) (h0 : 0 < c) (h8 : c ≤ 8) : ∃ k : Nat, (k : Int) < c ∧ wrap64 ((IntKind.u64.wrap n).tmod c) = (k : Int) := by
  have hx : 0 ≤ IntKind.u64.wrap n := by
    unfold IntKind.wrap
    simp [IntKind.signed, IntKind.bits]
    omega
  have e : (IntKind.u64.wrap n).tmod c = IntKind.u64.wrap n % c := Int.tmod_eq_emod_of_nonneg hx
  have h1 := Int.emod_nonneg (IntKind.u64.wrap n) (b := c) (by omega)
  have h2 := Int.emod_lt_of_pos (IntKind.u64.wrap n) h0
  obtain ⟨k, hk⟩ := Int.eq_ofNat_of_zero_le h1
  refine ⟨k, by omega, ?_⟩
  rw [e, hk]
  unfold wrap64
  omega
theorem eqEntry (e : Ent) (w : World) : (binOp .eql 27 (entV e) (entV e)).run Try.prog w = .ok (.bool true) w := by
  unfold entV
  rw [run_eql_struct]
  have := eqEnt_r 9998 e w
  unfold entV at this
  rw [this]; rfl
theorem Boxes.twoR {w wr : World} {l : List (Nat × Array Value)} (h : Boxes w wr l) (a b : Array Value) : Boxes w ((((wr.alloc (.cells zeroCells 34)).alloc (.cells zeroCells 34)).setRow (wr.heap.size + 1) a).setRow wr.heap.size b) ((wr.heap.size, b) :: (wr.heap.size + 1, a) :: l) := by
  have hz := h.below.size
  refine ⟨below_setRow (below_setRow ((h.below.alloc hz _).alloc (by simp; omega) _) (by omega) _) hz _, fun p hp => ?_, fun p hp => ?_⟩
  · rcases List.mem_cons.1 hp with e | e
    · subst e; exact hz
    · rcases List.mem_cons.1 e with e | e
      · subst e; show w.heap.size ≤ wr.heap.size + 1; omega
      · exact h.lo p e
  · rcases List.mem_cons.1 hp with e | e
    · subst e; exact setRow_heap _ _ _ _ _ _ (by rw [setRow_other _ _ _ _ (by omega)]; exact heap_alloc2_old _ _ _)
    · rcases List.mem_cons.1 e with e | e
      · subst e
        rw [setRow_other _ _ _ _ (by simp)]; exact setRow_heap _ _ _ _ _ _ (heap_alloc2_new _ _ _)
      · have := h.hi e
        rw [setRow_other _ _ _ _ (by omega), setRow_other _ _ _ _ (by omega), Below.heap_alloc _ _ _ (by simp; omega), Below.heap_alloc _ _ _ (by omega)]; exact h.row p e
set_option maxRecDepth 100000 in
set_option maxHeartbeats 4000000 in
theorem safeDoes_any (cs ds : Array Value) (hk : Kinds cs) (hl : Kinds ds) (n d s b : Int) (w : World) :
    Calls Try.prog 10 #[.agg cs, .agg ds, .int .i64 n, .int .i64 d, .int .i64 s, .int .i64 b] w fun e w' => e = .returned (.bool true) ∧ Below w.heap.size w w' := by
  have hi := hk.isImg
  have hj := hl.isImg
  have z := zero_img.1
  have B0 := hide (Boxes.args3 w cs ds)
  go_enter Try.func10, Try.ntmps10
  go_wp2_with fail
  generalize (w.alloc (.cells cs 34)).alloc (.cells ds 34) = X0 at B0 ⊢
  generalize w.heap.size + 1 = gd at B0 ⊢
  refine (safeBegun_any _).mono ?_
  rintro e w1 ⟨rfl, hb1⟩
  have B1 := hide ((unhide B0).call hb1)
  clear B0 hb1
  have r1 := hide ((unhide B1).row (w.heap.size, cs) (by simp))
  go_wp2_with (have hx := unhide r1; refine wpList_load_row rfl 34 _ rfl w.heap.size rfl 34 cs (0, 0) _ hx img_under rfl (img_info hi.size) ?_; clear hx r1)
  refine (great_any cs _ hi _).mono ?_
  rintro e w2 ⟨⟨v, rfl⟩, hb2⟩
  have B2 := hide ((unhide B1).call hb2)
  clear B1 hb2
  cases v
  case true =>
    go_wp2_with fail
    go_ret
    exact ⟨rfl, (unhide B2).below⟩
  have r2 := hide ((unhide B2).row (gd, ds) (by simp))
  go_wp2_with (have hx := unhide r2; refine wpList_load_row_g rfl 34 _ rfl gd rfl 34 ds (0, 0) _ hx img_under rfl (img_info hj.size) ?_; clear hx r2)
  refine (great_any ds _ hj _).mono ?_
  rintro e w3 ⟨⟨v, rfl⟩, hb3⟩
  have B3 := hide ((unhide B2).call hb3)
  clear B2 hb3
  cases v
  case true =>
    go_wp2_with fail
    go_ret
    exact ⟨rfl, (unhide B3).below⟩
  go_wp2_with fail
  go_cut [13, 14] (fun p q wx => ∃ g1 g2, p = .pointer (some ⟨g1, 0, none⟩) ∧ q = .pointer (some ⟨g2, 0, none⟩) ∧ Hid (Boxes w wx ((g2, ds) :: (g1, cs) :: (gd, ds) :: (w.heap.size, cs) :: [])))
  case first =>
    have BW := hide ((unhide B3).call (Below.refl _ _).drew)
    have hgn := (unhide BW).hi (p := (w.heap.size, cs)) (by simp)
    have hgd := (unhide BW).hi (p := (gd, ds)) (by simp)
    refine wp_region_held_drew (S := fun W => W.heap[w.heap.size]? = some (.cells cs 34) ∧ W.heap[gd]? = some (.cells ds 34)) (by kernel_rfl) ⟨(unhide BW).row (w.heap.size, cs) (by simp), (unhide BW).row (gd, ds) (by simp)⟩ (fun hS => ?_)
    refine wpAnyH_take (i := 0) (v := .agg cs) rfl (by kernel_rfl) (by kernel_rfl) (by kernel_rfl) (fun _ _ _ h => h) (Or.inl ⟨by rfl, fun W h => run_exec_load_row 34 _ rfl w.heap.size rfl W 34 cs (0, 0) _ h.1 img_under rfl (img_info hi.size)⟩) hS ?_
    refine wpAnyH_take (i := 1) (v := .agg ds) rfl (by kernel_rfl) (by kernel_rfl) (by kernel_rfl) (fun _ _ _ h => h) (Or.inl ⟨by rfl, fun W h => run_exec_load_row 34 _ rfl gd rfl W 34 ds (0, 0) _ h.2 img_under rfl (img_info hj.size)⟩) hS ?_
    generalize w3.drew = WW at hS hgn hgd BW ⊢
    refine wpAnyH_ready (rs := [2, 3]) (by kernel_rfl) (by simp) ?_
    refine AllReadyH.cons rfl (fun K hK => ?_) (AllReadyH.cons rfl (fun K hK => ?_) AllReadyH.nil)
    · skip
      go_simp
      refine hK.out _ _ ⟨by rw [Below.heap_alloc _ _ _ hgn]; exact hS.1, by rw [Below.heap_alloc _ _ _ hgd]; exact hS.2⟩ (fun hS1 => ?_)
      clear hK K
      refine wpAnyH_ready (rs := [3]) (by kernel_rfl) (by simp) ?_
      refine AllReadyH.cons rfl (fun K hK => ?_) AllReadyH.nil
      go_simp
      refine hK.out _ _ ⟨by rw [Below.heap_alloc _ _ _ (by simp; omega)]; exact hS1.1, by rw [Below.heap_alloc _ _ _ (by simp; omega)]; exact hS1.2⟩ (fun hS2 => ?_)
      clear hK K
      refine wpAnyH_ready (rs := [4]) (by kernel_rfl) (by simp) ?_
      refine AllReadyH.cons rfl (fun K hK => ?_) AllReadyH.nil
      rw [if_pos (by rfl)]
      refine wp_store_row 34 _ _ rfl (WW.heap.size) cs rfl rfl 34 zeroCells ?h1 (img_info hi.size) (zero_size hi) hi.all ?_
      case h1 => first | exact heap_alloc2_old _ _ _ | exact heap_alloc2_new _ _ _
      refine hK.out _ _ ⟨by rw [setRow_other _ _ _ _ (by omega)]; exact hS2.1, by rw [setRow_other _ _ _ _ (by omega)]; exact hS2.2⟩ (fun hS3 => ?_)
      clear hK K
      refine wpAnyH_ready (rs := [5]) (by kernel_rfl) (by simp) ?_
      refine AllReadyH.cons rfl (fun K hK => ?_) AllReadyH.nil
      rw [if_pos (by rfl)]
      refine wp_store_row 34 _ _ rfl (WW.heap.size + 1) ds rfl rfl 34 zeroCells ?h2 (img_info hj.size) (zero_size hj) hj.all ?_
      case h2 => rw [setRow_other _ _ _ _ (by omega)]; first | exact heap_alloc2_old _ _ _ | exact heap_alloc2_new _ _ _
      refine hK.out _ _ ⟨by rw [setRow_other _ _ _ _ (by omega)]; exact hS3.1, by rw [setRow_other _ _ _ _ (by omega)]; exact hS3.2⟩ (fun hS4 => ?_)
      clear hK K
      refine wpAnyH_done (by kernel_rfl) ?_ _
      go_wp2_with fail
      go_meet
      exact ⟨_, _, rfl, rfl, hide (unhide BW).two _ _⟩
    · skip
      go_simp
      refine hK.out _ _ ⟨by rw [Below.heap_alloc _ _ _ hgn]; exact hS.1, by rw [Below.heap_alloc _ _ _ hgd]; exact hS.2⟩ (fun hS1 => ?_)
      clear hK K
      refine wpAnyH_ready (rs := [2]) (by kernel_rfl) (by simp) ?_
      refine AllReadyH.cons rfl (fun K hK => ?_) AllReadyH.nil
      go_simp
      refine hK.out _ _ ⟨by rw [Below.heap_alloc _ _ _ (by simp; omega)]; exact hS1.1, by rw [Below.heap_alloc _ _ _ (by simp; omega)]; exact hS1.2⟩ (fun hS2 => ?_)
      clear hK K
      refine wpAnyH_ready (rs := [4]) (by kernel_rfl) (by simp) ?_
      refine AllReadyH.cons rfl (fun K hK => ?_) AllReadyH.nil
      rw [if_pos (by rfl)]
      refine wp_store_row 34 _ _ rfl (WW.heap.size + 1) cs rfl rfl 34 zeroCells ?h1 (img_info hi.size) (zero_size hi) hi.all ?_
      case h1 => first | exact heap_alloc2_old _ _ _ | exact heap_alloc2_new _ _ _
      refine hK.out _ _ ⟨by rw [setRow_other _ _ _ _ (by omega)]; exact hS2.1, by rw [setRow_other _ _ _ _ (by omega)]; exact hS2.2⟩ (fun hS3 => ?_)
      clear hK K
      refine wpAnyH_ready (rs := [5]) (by kernel_rfl) (by simp) ?_
      refine AllReadyH.cons rfl (fun K hK => ?_) AllReadyH.nil
      rw [if_pos (by rfl)]
      refine wp_store_row 34 _ _ rfl (WW.heap.size) ds rfl rfl 34 zeroCells ?h2 (img_info hj.size) (zero_size hj) hj.all ?_
      case h2 => rw [setRow_other _ _ _ _ (by omega)]; first | exact heap_alloc2_old _ _ _ | exact heap_alloc2_new _ _ _
      refine hK.out _ _ ⟨by rw [setRow_other _ _ _ _ (by omega)]; exact hS3.1, by rw [setRow_other _ _ _ _ (by omega)]; exact hS3.2⟩ (fun hS4 => ?_)
      clear hK K
      refine wpAnyH_done (by kernel_rfl) ?_ _
      go_wp2_with fail
      go_meet
      exact ⟨_, _, rfl, rfl, hide (unhide BW).twoR _ _⟩
  case rest =>
    obtain ⟨ga, gc, rfl, rfl, B4⟩ := hcut
    clear B3
    obtain ⟨ki, hki, eki⟩ := small_mod n 8 (by omega) (by omega)
    obtain ⟨kd, hkd, ekd⟩ := small_mod d 3 (by omega) (by omega)
    obtain ⟨ks, hks, eks⟩ := small_mod s 4 (by omega) (by omega)
    have EKI := hide eki
    have EKD := hide ekd
    have EKS := hide eks
    clear eki ekd eks
    go_wp2_with fail
    rw [unhide EKI, unhide EKD, unhide EKS]
    clear EKI EKD EKS
    refine (write_any w.heap.size gd (imgOf cs) (imgOf ds) b _ ((unhide B4).has (by simp) hi) ((unhide B4).is (by simp) hj)).mono ?_
    rintro e wx ⟨⟨cx, rfl, hx⟩, hbx⟩
    have B5 := hide ((unhide B4).call hbx)
    clear hbx B4
    have sx := hide (heap_alloc_last wx (.cells zeroCells 34))
    have B6 := hide ((unhide B5).new cx)
    clear B5
    go_wp2_with (first | (have hx9 := unhide sx; refine wpList_store_row rfl 34 _ _ rfl wx.heap.size cx rfl rfl 34 zeroCells hx9 (img_info hx.size) (zero_size hx) hx.all ?_; clear hx9 sx; generalize (wx.alloc (.cells zeroCells 34)).setRow wx.heap.size cx = Xx at B6 ⊢; generalize wx.heap.size = gx at B6 ⊢))
    refine (rWrite_any (ob := 0) (oc := 0) w.heap.size gd (imgOf cs) (imgOf ds) b _ ((unhide B6).has (by simp) hi).at ((unhide B6).is (by simp) hj).at).mono ?_
    rintro e wy ⟨⟨cy, rfl, hy⟩, hby⟩
    obtain rfl : cy = cx := hy.agree hx (Img.Agree.refl _)
    clear hy
    have B7 := hide ((unhide B6).call hby)
    clear hby B6
    have sy := hide (heap_alloc_last wy (.cells zeroCells 34))
    have B8 := hide ((unhide B7).new cy)
    clear B7
    go_wp2_with (first | (have hx9 := unhide sy; refine wpList_store_row rfl 34 _ _ rfl wy.heap.size cy rfl rfl 34 zeroCells hx9 (img_info hx.size) (zero_size hx) hx.all ?_; clear hx9 sy; generalize (wy.alloc (.cells zeroCells 34)).setRow wy.heap.size cy = Xy at B8 ⊢; generalize wy.heap.size = gy at B8 ⊢))
    refine (block_any _ _).mono ?_
    rintro e wz ⟨rfl, ez⟩
    rw [ez]
    clear ez wz
    go_wp2_with fail
    refine (blockOf_any _ _).mono ?_
    rintro e wz ⟨rfl, ez⟩
    rw [ez]
    clear ez wz
    go_wp2_with fail
    refine (union_any w.heap.size gd (imgOf cs) (imgOf ds) n _ ((unhide B8).has (by simp) hi) ((unhide B8).has (by simp) hj)).mono ?_
    rintro e wz ⟨rfl, ez⟩
    rw [ez]
    clear ez wz
    go_wp2_with fail
    refine (both_any w.heap.size gd (imgOf cs) (imgOf ds) n _ ((unhide B8).has (by simp) hi) ((unhide B8).has (by simp) hj)).mono ?_
    rintro e wz ⟨rfl, ez⟩
    rw [ez]
    clear ez wz
    go_wp2_with fail
    refine (inode_of w.heap.size gd (imgOf cs) (imgOf ds) ki (by omega) _ ((unhide B8).has (by simp) hi) ((unhide B8).has (by simp) hj)).mono ?_
    rintro e w9 ⟨rfl, hb9⟩
    have B9 := hide ((unhide B8).call hb9)
    clear hb9 B8
    obtain ⟨I, eI⟩ : ∃ I, I = Img.inodeAs (imgOf cs) (imgOf ds) ki := ⟨_, rfl⟩
    have EI := hide eI
    clear eI
    have q1 := eqInode I
    rw [← unhide EI]
    unfold inoV at q1 ⊢
    go_wp2_with fail
    refine (rInode_any w.heap.size gd (imgOf cs) (imgOf ds) ki (by omega) _ ((unhide B9).has (by simp) hi) ((unhide B9).has (by simp) hj)).mono ?_
    rintro e w10 ⟨rfl, hb10⟩
    have B10 := hide ((unhide B9).call hb10)
    clear hb10 B9
    rw [← unhide EI]
    clear EI
    unfold inoV
    go_wp2_with fail
    clear q1
    refine (entry_of w.heap.size gd (imgOf cs) (imgOf ds) kd ks (by omega) (by omega) _ ((unhide B10).has (by simp) hi) ((unhide B10).has (by simp) hj)).mono ?_
    rintro e w11 ⟨rfl, hb11⟩
    have B11 := hide ((unhide B10).call hb11)
    clear hb11 B10
    obtain ⟨J, eJ⟩ : ∃ J, J = Img.entryAs (imgOf cs) (imgOf ds) kd ks := ⟨_, rfl⟩
    have EJ := hide eJ
    clear eJ
    have q2 := eqEntry J
    rw [← unhide EJ]
    unfold entV at q2 ⊢
    go_wp2_with fail
    refine (rEntry_any w.heap.size gd (imgOf cs) (imgOf ds) kd ks (by omega) (by omega) _ ((unhide B11).has (by simp) hi) ((unhide B11).has (by simp) hj)).mono ?_
    rintro e w12 ⟨rfl, hb12⟩
    have B12 := hide ((unhide B11).call hb12)
    clear hb12 B11
    rw [← unhide EJ]
    clear EJ
    unfold entV
    have r1 := hide ((unhide B12).row (gx, cy) (by simp))
    have r2 := hide ((unhide B12).row (gy, cy) (by simp))
    have r3 := hide ((unhide B12).row (w.heap.size, cs) (by simp))
    have r4 := hide ((unhide B12).row (ga, cs) (by simp))
    have r5 := hide ((unhide B12).row (gd, ds) (by simp))
    have r6 := hide ((unhide B12).row (gc, ds) (by simp))
    have q3 := eqImg hx
    have q4 := eqImg hi
    have q5 := eqImg hj
    go_wp2_with (first | (have hx9 := unhide r1; refine wpList_load_row_g rfl 34 _ rfl gx rfl 34 cy (0, 0) _ hx9 img_under rfl (img_info hx.size) ?_; clear hx9 r1) | (have hx9 := unhide r2; refine wpList_load_row_g rfl 34 _ rfl gy rfl 34 cy (0, 0) _ hx9 img_under rfl (img_info hx.size) ?_; clear hx9 r2) | (have hx9 := unhide r3; refine wpList_load_row_g rfl 34 _ rfl w.heap.size rfl 34 cs (0, 0) _ hx9 img_under rfl (img_info hi.size) ?_; clear hx9 r3) | (have hx9 := unhide r4; refine wpList_load_row_g rfl 34 _ rfl ga rfl 34 cs (0, 0) _ hx9 img_under rfl (img_info hi.size) ?_; clear hx9 r4) | (have hx9 := unhide r5; refine wpList_load_row_g rfl 34 _ rfl gd rfl 34 ds (0, 0) _ hx9 img_under rfl (img_info hj.size) ?_; clear hx9 r5) | (have hx9 := unhide r6; refine wpList_load_row_g rfl 34 _ rfl gc rfl 34 ds (0, 0) _ hx9 img_under rfl (img_info hj.size) ?_; clear hx9 r6))
    go_ret
    exact ⟨rfl, (unhide B12).below⟩
end Go.Proofs.Ytgipceeheohafaa
