/-
  (*Bed).Files0: put, cut. (Written by genfa.py.)
-/
import Derived.Test.YtmbpckmpnnmnmabGreatZz
import Derived.Test.YtmbpckmpnnmnmabGreatYn
namespace Go.Proofs.YtmbpckmpnnmnmabGreat
open Go.RowKit
open Idl (Stp chk stpA)
section
variable {w W : World} {g : Nat} {cs ds : Array Value} {m k : Img} {last : Int} {t1 t2 t3 t4 : Value}
set_option maxHeartbeats 4000000 in
set_option maxRecDepth 100000 in
theorem files0_put (h : W.heap[g]? = some (.cells (cs ++ (ds ++ Sft.btl last t1 t2 t3 t4)) 48)) (hm : IsImg cs m) (hk : IsImg ds k) (hG : Img.Good m last) (dir toDir p : Int) (name tu text : ByteArray) (hn : name.size ≤ maxLen) (ht : tu.size ≤ maxLen) (hx : text.size ≤ maxLen) (hc : Img.scode m k ⟨5, dir, toDir, p, name, tu, text⟩ = 0) :
    Calls Tryz.prog 51 #[.pointer (some ⟨g, 0, none⟩), .agg (stpA ⟨5, dir, toDir, p, name, tu, text⟩)] W fun e w' => e = .returned (.int .i64 0) ∧ Bd W w' g ds (Sft.btl (Img.slast m k last ⟨5, dir, toDir, p, name, tu, text⟩) t1 t2 t3 t4) (Img.sstep m k last ⟨5, dir, toDir, p, name, tu, text⟩) := by
  have tk := Img.take hc
  have hst : Img.sstep m k last ⟨5, dir, toDir, p, name, tu, text⟩ = Img.putPart m k (Img.inoOf m dir name).toNat p.toNat text := by
    rcases Img.sstep_cases (last := last) hc with ⟨z, e⟩ | ⟨z, e⟩ | ⟨z, e⟩ | ⟨z, e⟩ | ⟨z, e⟩ | ⟨z, e⟩
    all_goals first | exact e | (exfalso; revert z; decide) | (simp at z)
  have hsl : Img.slast m k last ⟨5, dir, toDir, p, name, tu, text⟩ = last := by unfold Img.slast; first | rw [if_pos ⟨hc, rfl⟩] | rw [if_neg (fun z => by have := z.2; simp at this)]
  rw [hst, hsl]
  clear hst hsl
  have hne := Img.nm_ne tk.name
  have d0' : 0 ≤ dir := tk.dir.1
  have d3' : dir < 3 := tk.dir.2
  obtain ⟨d, rfl⟩ := Int.eq_ofNat_of_zero_le d0'
  have hd3 : d < 3 := by omega
  have hck := tk.chk
  obtain ⟨q0, q2⟩ := tk.part (.inl rfl)
  have q0 : 0 ≤ p := q0
  have q2 : p < 2 := q2
  obtain ⟨q, rfl⟩ := Int.eq_ofNat_of_zero_le q0
  have hq : q < 2 := by omega
  clear q0 q2
  obtain ⟨j, n, hT⟩ := Img.there hG.ex.ok (tk.old (by simp))
  simp only [Int.toNat_natCast]
  rw [show (Img.inoOf m (d : Int) name).toNat = n by rw [show Img.inoOf m (d : Int) name = (n : Int) from hT.of]; rfl]
  have hdat := tk.data rfl
  rw [show Img.inoOf m (d : Int) name = (n : Int) from hT.of] at hdat
  simp only [Int.toNat_natCast] at hdat
  obtain ⟨x, hx9, hxc⟩ := Sft.put_at hG.ex.ok hT hq hdat
  have hfd : m.find d name.toList = (j : Int) := by rw [← Sft.findAt_in hd3 hne]; exact hT.at_
  have hj4 := hT.k4
  have hn8 := hT.n8
  have hino : m.ino d j = (n : Int) := hT.ino
  have HI := hide hino
  have jn : decide ((j : Int) < 0) = false := by simp
  have nz : (n : Int) < 8 := by omega
  clear hc tk hT d0' d3' hG hino hdat
  have BEL := hide (show Below W.heap.size W (W.alloc (.cells (stpA ⟨5, (d : Int), toDir, (q : Int), name, tu, text⟩) 37)) from (Below.refl _ W).alloc (Nat.le_refl _) _)
  have C1 := hide (Idl.stepFault_any ⟨5, (d : Int), toDir, (q : Int), name, tu, text⟩ hn ht hx (W.alloc (.cells (stpA ⟨5, (d : Int), toDir, (q : Int), name, tu, text⟩) 37)))
  rw [hck] at C1
  have HC := hide fun W' bW => stp_box W ⟨5, (d : Int), toDir, (q : Int), name, tu, text⟩ W' bW
  have M0 := hide ((Bm.start h).call (unhide BEL))
  have GN := hide (show W.heap.size ≠ g from by have := (Array.getElem?_eq_some_iff.1 h).1; omega)
  have RX := hide (heap_alloc_last W (.cells (stpA ⟨5, (d : Int), toDir, (q : Int), name, tu, text⟩) 37))
  have HM := hide hm
  have HK := hide hk
  have HFD := hide hfd
  clear h hck hfd hm hk
  simp only [stpA] at C1
  go_enter Tryz.func51, Tryz.ntmps51
  go_wp2_with fail
  refine (unhide C1).mono ?_
  rintro e w1 ⟨rfl, b1⟩
  have M1 := hide ((unhide M0).call b1)
  have HD := hide (b1.trans ((Below.refl w1.heap.size w1).drew.mono b1.size))
  have M2 := hide ((unhide M1).call (Below.refl w1.heap.size w1).drew)
  clear b1 C1 M0 M1
  generalize W.heap.size = gx at *
  go_wp2_with fail
  refine wp_region_held_drew (S := fun W' => HasAt W' g 0 m ∧ W'.cell? ⟨gx, 1, none⟩ = some (.int .i64 (d : Int)) ∧ W'.cell? ⟨gx, 4, none⟩ = some (.string name)) (by kernel_rfl) (⟨(unhide M2).has (unhide HM), unhide HC _ (unhide HD) 1 _ rfl, unhide HC _ (unhide HD) 4 _ rfl⟩) (fun hS => ?_)
  refine tkP (i := 0) (oi := ⟨some 16, .move (.tmp 0), 44, "base.go:507", #[], none⟩) (v := .pointer (some ⟨g, 0, none⟩)) hS ?_
  try simp only [Act.put, z1, z2, z3]
  refine tkP (i := 1) (oi := ⟨some 17, .nilCheck (.tmp 16), 0, "base.go:507", #[⟨0, .data⟩], none⟩) (v := .pointer (some ⟨g, 0, none⟩)) hS ?_
  try simp only [Act.put, z1, z2, z3]
  refine tkP (i := 2) (oi := ⟨some 18, .fieldAddr 48 (.tmp 17) 0, 0, "base.go:507", #[⟨1, .data⟩], none⟩) (v := .pointer (some ⟨g, 0, none⟩)) hS ?_
  try simp only [Act.put, z1, z2, z3]
  refine tkP (i := 3) (oi := ⟨some 19, .fieldAddr 37 (.tmp 3) 1, 0, "base.go:507", #[], none⟩) (v := .pointer (some ⟨gx, 1, none⟩)) hS ?_
  try simp only [Act.put, z1, z2, z3]
  refine tkH (i := 4) (oi := ⟨some 20, .load 3 (.tmp 19), 3, "base.go:507", #[⟨3, .data⟩], none⟩) (v := .int .i64 (d : Int)) (fun W h => Op1.ld_int (.tmp 19) (by kernel_rfl) (by kernel_rfl) W (h.2.1)) hS ?_
  try simp only [Act.put, z1, z2, z3]
  refine tkP (i := 5) (oi := ⟨some 21, .fieldAddr 37 (.tmp 3) 4, 0, "base.go:507", #[], none⟩) (v := .pointer (some ⟨gx, 4, none⟩)) hS ?_
  try simp only [Act.put, z1, z2, z3]
  refine tkH (i := 6) (oi := ⟨some 22, .load 9 (.tmp 21), 9, "base.go:507", #[⟨5, .data⟩], none⟩) (v := .string name) (fun W h => Op1.ld_str (.tmp 21) (by kernel_rfl) (by kernel_rfl) W (h.2.2)) hS ?_
  try simp only [Act.put, z1, z2, z3]
  refine wpAnyH_ready (rs := [7]) (by kernel_rfl) (by simp) ?_
  refine AllReadyH.cons (o := ⟨some 23, .call { callee := .value (.func 46), args := #[.tmp 18, .tmp 20, .tmp 22], argTypes := #[50, 3, 9] }, 3, "base.go:507", #[⟨2, .data⟩, ⟨4, .data⟩, ⟨6, .data⟩], none⟩) rfl (fun K hK => ?_) AllReadyH.nil
  rw [if_pos (by kernel_rfl)]
  go_simp
  refine (rSlotOf_in g m d hd3 name hne _ ((unhide M2).has (unhide HM))).mono ?_
  rintro e w2 ⟨rfl, e9⟩
  rw [e9]
  clear e9 w2
  rw [unhide HFD]
  go_wp2_with fail
  refine hK.out _ _ (hS) (fun hS2 => ?_)
  clear hK K
  try simp only [Act.put, z1, z2, z3]
  refine tkP (i := 8) (oi := ⟨some 6, .assign (.tmp 23), 3, "base.go:507", #[⟨7, .data⟩, ⟨7, .chain⟩, ⟨0, .phase⟩, ⟨1, .phase⟩, ⟨2, .phase⟩, ⟨3, .phase⟩, ⟨4, .phase⟩, ⟨5, .phase⟩, ⟨6, .phase⟩, ⟨7, .phase⟩], none⟩) (v := .int .i64 ((j : Int))) hS2 ?_
  try simp only [Act.put, z1, z2, z3]
  refine wpAnyH_done (by kernel_rfl) ?_ _
  clear hS hS2
  have RV : w1.drew.heap[gx]? = some (.cells (stpA ⟨5, (d : Int), toDir, (q : Int), name, tu, text⟩) 37) := by
    rw [(unhide HD).block gx (Array.getElem?_eq_some_iff.1 (unhide RX)).1]; exact unhide RX
  have hgl : gx < w1.drew.heap.size := (Array.getElem?_eq_some_iff.1 RV).1
  have QB := hide (show ∀ (W' : World) (rows : Array Value), Bm w1.drew W' g rows → ∀ j u, (stpA ⟨5, (d : Int), toDir, (q : Int), name, tu, text⟩)[j]? = some u → W'.cell? ⟨gx, j, none⟩ = some u from fun W' rows N j u hj => by rw [cell_of_row _ _ _ _ _ _ ((N.chg.block gx hgl (unhide GN)).trans RV)]; exact hj)
  have N2 := hide (Bm.start (unhide M2).row)
  have CM := hide (unhide M2).chg
  clear RV hgl HC HD M2 BEL RX HFD GN
  generalize w1.drew = V at *
  have q0 := unhide QB _ _ (unhide N2) 0 _ rfl
  have N3 := hide ((unhide N2).call (Below.refl _ _).drew)
  go_wp2_with fail
  refine wp_region_held_drew (S := fun W' => HasAt W' g 0 m ∧ W'.cell? ⟨gx, 1, none⟩ = some (.int .i64 (d : Int))) (by kernel_rfl) (⟨(unhide N3).has (unhide HM), unhide QB _ _ (unhide N3) 1 _ rfl⟩) (fun hS => ?_)
  refine tkP (i := 0) (oi := ⟨some 83, .move (.tmp 0), 44, "base.go:526", #[], none⟩) (v := .pointer (some ⟨g, 0, none⟩)) hS ?_
  try simp only [Act.put, z1, z2, z3]
  refine tkP (i := 1) (oi := ⟨some 84, .fieldAddr 37 (.tmp 3) 1, 0, "base.go:526", #[], none⟩) (v := .pointer (some ⟨gx, 1, none⟩)) hS ?_
  try simp only [Act.put, z1, z2, z3]
  refine tkH (i := 2) (oi := ⟨some 85, .load 3 (.tmp 84), 3, "base.go:526", #[⟨1, .data⟩], none⟩) (v := .int .i64 (d : Int)) (fun W h => Op1.ld_int (.tmp 84) (by kernel_rfl) (by kernel_rfl) W (h.2)) hS ?_
  try simp only [Act.put, z1, z2, z3]
  refine tkP (i := 3) (oi := ⟨some 86, .move (.tmp 6), 3, "base.go:526", #[], none⟩) (v := .int .i64 (j : Int)) hS ?_
  try simp only [Act.put, z1, z2, z3]
  refine tkP (i := 4) (oi := ⟨some 87, .nilCheck (.tmp 83), 0, "base.go:526", #[⟨0, .data⟩], none⟩) (v := .pointer (some ⟨g, 0, none⟩)) hS ?_
  try simp only [Act.put, z1, z2, z3]
  refine tkP (i := 5) (oi := ⟨some 88, .fieldAddr 48 (.tmp 87) 0, 0, "base.go:526", #[⟨4, .data⟩], none⟩) (v := .pointer (some ⟨g, 0, none⟩)) hS ?_
  try simp only [Act.put, z1, z2, z3]
  refine tkP (i := 6) (oi := ⟨some 89, .fieldAddr 34 (.tmp 88) 1, 0, "base.go:526", #[⟨5, .data⟩], none⟩) (v := .pointer (some ⟨g, 40, none⟩)) hS ?_
  try simp only [Act.put, z1, z2, z3]
  refine tkH (i := 7) (oi := ⟨some 90, .indexAddr 29 (.tmp 89) (.tmp 85), 0, "base.go:526", #[⟨6, .data⟩, ⟨2, .data⟩], none⟩) (v := .pointer (some ⟨g, 40 + d * 12, none⟩)) (fun W h => Op1.ix_dir (.tmp 89) (.tmp 85) (by kernel_rfl) (by kernel_rfl) (by kernel_rfl) (hd3) W) hS ?_
  try simp only [Act.put, z1, z2, z3]
  refine tkH (i := 8) (oi := ⟨some 91, .indexAddr 28 (.tmp 90) (.tmp 86), 0, "base.go:526", #[⟨7, .data⟩, ⟨3, .data⟩], none⟩) (v := .pointer (some ⟨g, 40 + d * 12 + j * 3, none⟩)) (fun W h => Op1.ix_slot (.tmp 90) (.tmp 86) (by kernel_rfl) (by kernel_rfl) (by kernel_rfl) (hj4) W) hS ?_
  try simp only [Act.put, z1, z2, z3]
  refine tkP (i := 9) (oi := ⟨some 92, .fieldAddr 27 (.tmp 91) 1, 0, "base.go:526", #[⟨8, .data⟩], none⟩) (v := .pointer (some ⟨g, 40 + d * 12 + j * 3 + 1, none⟩)) hS ?_
  try simp only [Act.put, z1, z2, z3]
  refine tkH (i := 10) (oi := ⟨some 93, .load 3 (.tmp 92), 3, "base.go:526", #[⟨9, .data⟩], none⟩) (v := .int .i64 (n : Int)) (fun W h => Op1.ld_int (.tmp 92) (by kernel_rfl) (by kernel_rfl) W (by have := h.1.ino d j hd3 hj4; rw [unhide HI, Nat.zero_add] at this; exact this)) hS ?_
  try simp only [Act.put, z1, z2, z3]
  refine tkP (i := 11) (oi := ⟨some 8, .assign (.tmp 93), 3, "base.go:526", #[⟨10, .data⟩, ⟨0, .phase⟩, ⟨1, .phase⟩, ⟨2, .phase⟩, ⟨3, .phase⟩, ⟨4, .phase⟩, ⟨5, .phase⟩, ⟨6, .phase⟩, ⟨7, .phase⟩, ⟨8, .phase⟩, ⟨9, .phase⟩, ⟨10, .phase⟩], none⟩) (v := .int .i64 (n : Int)) hS ?_
  try simp only [Act.put, z1, z2, z3]
  refine wpAnyH_done (by kernel_rfl) ?_ _
  clear hS q0 N2 jn
  generalize V.drew = V1 at *
  have q0 := unhide QB _ _ (unhide N3) 0 _ rfl
  have N4 := hide ((unhide N3).call (Below.refl _ _).drew)
  go_wp2_with fail
  refine wp_region_held_drew (S := fun W' => HasAt W' g 0 m ∧ W'.cell? ⟨gx, 3, none⟩ = some (.int .i64 (q : Int))) (by kernel_rfl) (⟨(unhide N4).has (unhide HM), unhide QB _ _ (unhide N4) 3 _ rfl⟩) (fun hS => ?_)
  refine tkP (i := 0) (oi := ⟨some 163, .move (.tmp 9), 101, "base.go:545", #[], none⟩) (v := .pointer (some ⟨g, n * 5, none⟩)) hS ?_
  try simp only [Act.put, z1, z2, z3]
  refine tkP (i := 1) (oi := ⟨some 164, .fieldAddr 37 (.tmp 3) 3, 0, "base.go:545", #[], none⟩) (v := .pointer (some ⟨gx, 3, none⟩)) hS ?_
  try simp only [Act.put, z1, z2, z3]
  refine tkH (i := 2) (oi := ⟨some 165, .load 3 (.tmp 164), 3, "base.go:545", #[⟨1, .data⟩], none⟩) (v := .int .i64 (q : Int)) (fun W h => Op1.ld_int (.tmp 164) (by kernel_rfl) (by kernel_rfl) W (h.2)) hS ?_
  try simp only [Act.put, z1, z2, z3]
  refine tkP (i := 3) (oi := ⟨some 166, .nilCheck (.tmp 163), 0, "base.go:545", #[⟨0, .data⟩], none⟩) (v := .pointer (some ⟨g, n * 5, none⟩)) hS ?_
  try simp only [Act.put, z1, z2, z3]
  refine tkP (i := 4) (oi := ⟨some 167, .fieldAddr 24 (.tmp 166) 3, 0, "base.go:545", #[⟨3, .data⟩], none⟩) (v := .pointer (some ⟨g, n * 5 + 3, none⟩)) hS ?_
  try simp only [Act.put, z1, z2, z3]
  refine tkH (i := 5) (oi := ⟨some 168, .indexAddr 22 (.tmp 167) (.tmp 165), 0, "base.go:545", #[⟨4, .data⟩, ⟨2, .data⟩], none⟩) (v := .pointer (some ⟨g, n * 5 + 3 + q, none⟩)) (fun W h => Op1.ix_part (.tmp 167) (.tmp 165) (by kernel_rfl) (by kernel_rfl) (by kernel_rfl) (hq) W) hS ?_
  try simp only [Act.put, z1, z2, z3]
  refine tkH (i := 6) (oi := ⟨some 169, .load 3 (.tmp 168), 3, "base.go:545", #[⟨5, .data⟩], none⟩) (v := .int .i64 (m.part n q)) (fun W h => Op1.ld_int (.tmp 168) (by kernel_rfl) (by kernel_rfl) W (by have := h.1.part n q hn8 hq; rw [Nat.zero_add] at this; exact this)) hS ?_
  try simp only [Act.put, z1, z2, z3]
  refine tkH (i := 7) (oi := ⟨some 170, .binOp .lss 3 (.tmp 169) (.const (.int .i64 0)) 3, 4, "base.go:545", #[⟨6, .data⟩], none⟩) (v := .bool (decide (m.part n q < 0))) (fun W h => Op1.lss0 (.tmp 169) (by kernel_rfl) (by kernel_rfl) (by kernel_rfl) W) hS ?_
  try simp only [Act.put, z1, z2, z3]
  refine wpAnyH_done (by kernel_rfl) ?_ _
  clear hS q0 nz
  generalize V1.drew = V2 at *
  rcases hxc with ⟨hneg, he⟩ | hpos
  · have u1 : decide (m.part n q < 0) = true := by simpa using hneg
    have FIN := hide (show Img.putPart m k n q text = (m.setPart n q (x : Int)).putData x ((m.setPart n q (x : Int)).stamp n) text by
      unfold Img.putPart
      simp only [if_pos hneg, he]
      rw [Img.setPart_at hq, Int.toNat_natCast])
    have CI := hide (bData_any g m k V2 ((unhide N4).has (unhide HM)) ((unhide N4).hasD (unhide HM) (unhide HK)))
    rw [he] at CI
    have HP := hide (Img.setPart_at (now := m) (n := n) hq (x : Int))
    have xn : decide ((x : Int) < 0) = false := by simp
    rw [u1]
    clear hneg he
    go_wp2_with fail
    refine (unhide CI).mono ?_
    rintro e wq ⟨rfl, e9⟩
    rw [e9]
    clear e9 wq CI
    have N5 := hide ((unhide N4).call (Below.refl _ _).drew)
    go_wp2_with fail
    refine wp_region_F (S := fun W' => HasAt W' g 0 m ∧ W'.cell? ⟨gx, 3, none⟩ = some (.int .i64 (q : Int))) 7 (by kernel_rfl) (⟨(unhide N5).has (unhide HM), unhide QB _ _ (unhide N5) 3 _ rfl⟩) (fun hS => ?_)
    refine wpAnyF_take (i := 0) (oi := ⟨some 175, .move (.tmp 9), 101, "base.go:550", #[], none⟩) (v := .pointer (some ⟨g, n * 5, none⟩)) rfl (by kernel_rfl) (by kernel_rfl) (by kernel_rfl) (by kernel_rfl) (fun _ _ _ h => h) (Or.inl ⟨by kernel_rfl, fun W h => (by first | kernel_rfl | go_simp)⟩) hS ?_
    try simp only [Act.put, z1, z2, z3]
    refine wpAnyF_take (i := 1) (oi := ⟨some 176, .fieldAddr 37 (.tmp 3) 3, 0, "base.go:550", #[], none⟩) (v := .pointer (some ⟨gx, 3, none⟩)) rfl (by kernel_rfl) (by kernel_rfl) (by kernel_rfl) (by kernel_rfl) (fun _ _ _ h => h) (Or.inl ⟨by kernel_rfl, fun W h => (by first | kernel_rfl | go_simp)⟩) hS ?_
    try simp only [Act.put, z1, z2, z3]
    refine wpAnyF_take (i := 2) (oi := ⟨some 177, .load 3 (.tmp 176), 3, "base.go:550", #[⟨1, .data⟩], none⟩) (v := .int .i64 (q : Int)) rfl (by kernel_rfl) (by kernel_rfl) (by kernel_rfl) (by kernel_rfl) (fun _ _ _ h => h) (Or.inl ⟨by kernel_rfl, fun W h => Op1.ld_int (.tmp 176) (by kernel_rfl) (by kernel_rfl) W (h.2)⟩) hS ?_
    try simp only [Act.put, z1, z2, z3]
    refine wpAnyF_take (i := 3) (oi := ⟨some 178, .move (.tmp 10), 3, "base.go:550", #[], none⟩) (v := .int .i64 (x : Int)) rfl (by kernel_rfl) (by kernel_rfl) (by kernel_rfl) (by kernel_rfl) (fun _ _ _ h => h) (Or.inl ⟨by kernel_rfl, fun W h => (by first | kernel_rfl | go_simp)⟩) hS ?_
    try simp only [Act.put, z1, z2, z3]
    refine wpAnyF_free (i := 4) (oi := ⟨some 179, .nilCheck (.tmp 175), 0, "base.go:550", #[⟨0, .data⟩], none⟩) (v := .pointer (some ⟨g, n * 5, none⟩)) rfl (by kernel_rfl) (by kernel_rfl) (by kernel_rfl) (by kernel_rfl) (fun _ _ _ h => h) (Or.inl ⟨by kernel_rfl, fun W _ => (by first | kernel_rfl | go_simp)⟩) hS ?_
    try simp only [Act.put, z1, z2, z3]
    refine wpAnyF_free (i := 5) (oi := ⟨some 180, .fieldAddr 24 (.tmp 179) 3, 0, "base.go:550", #[⟨4, .data⟩], none⟩) (v := .pointer (some ⟨g, n * 5 + 3, none⟩)) rfl (by kernel_rfl) (by kernel_rfl) (by kernel_rfl) (by kernel_rfl) (fun _ _ _ h => h) (Or.inl ⟨by kernel_rfl, fun W _ => (by first | kernel_rfl | go_simp)⟩) hS ?_
    try simp only [Act.put, z1, z2, z3]
    refine wpAnyF_take (i := 6) (oi := ⟨some 181, .indexAddr 22 (.tmp 180) (.tmp 177), 0, "base.go:550", #[⟨5, .data⟩, ⟨2, .data⟩, ⟨0, .phase⟩, ⟨1, .phase⟩, ⟨2, .phase⟩, ⟨3, .phase⟩], none⟩) (v := .pointer (some ⟨g, n * 5 + 3 + q, none⟩)) rfl (by kernel_rfl) (by kernel_rfl) (by kernel_rfl) (by kernel_rfl) (fun _ _ _ h => h) (Or.inl ⟨by kernel_rfl, fun W h => Op1.ix_part (.tmp 180) (.tmp 177) (by kernel_rfl) (by kernel_rfl) (by kernel_rfl) (hq) W⟩) hS ?_
    try simp only [Act.put, z1, z2, z3]
    refine wpAnyF_last (o := ⟨none, .store 3 (.tmp 181) (.tmp 178), 0, "base.go:550", #[⟨6, .data⟩, ⟨3, .data⟩, ⟨0, .phase⟩, ⟨1, .phase⟩, ⟨2, .phase⟩, ⟨3, .phase⟩], none⟩) (by kernel_rfl) rfl (by kernel_rfl) (by kernel_rfl) (fun K hK => ?_)
    refine Op1.st_int (.tmp 181) (.tmp 178) (by kernel_rfl) rfl (g := g) (o0 := n * 5 + 3 + q) (v := (x : Int)) (by kernel_rfl) (by kernel_rfl) (u := .int .i64 (m.part n q)) (by have := hS.1.part n q hn8 hq; rw [Nat.zero_add] at this; exact this) ((unhide N5).frozen _) ?_
    refine hK.out _ _ ?_
    clear hK K
    try simp only [Act.put, z1, z2, z3]
    refine wpAnyF_done (by kernel_rfl) ?_ _
    obtain ⟨cs6, n6, hm6⟩ := Bd.part (unhide N5) (unhide HM) hn8 hq (x : Int)
    have N6 := hide n6
    have HM6 := hide hm6
    clear n6 hm6 hS u1 xn
    generalize V2.drew.setCell ⟨g, n * 5 + 3 + q, none⟩ (.int .i64 (x : Int)) = W6 at N6 ⊢
    generalize m.setPart n q (x : Int) = m6 at HM6 HP FIN
    have S1 := hide ((unhide N6).call (Below.refl _ _).drew)
    go_wp2_with fail
    refine wp_region_F (S := fun W' => HasAt W' g 0 m6 ∧ W'.cell? ⟨gx, 3, none⟩ = some (.int .i64 (q : Int)) ∧ W'.cell? ⟨gx, 6, none⟩ = some (.string text)) 19 (by kernel_rfl) (⟨(unhide S1).has (unhide HM6), unhide QB _ _ (unhide S1) 3 _ rfl, unhide QB _ _ (unhide S1) 6 _ rfl⟩) (fun hS => ?_)
    refine wpAnyF_take (i := 0) (oi := ⟨some 182, .move (.tmp 0), 44, "base.go:552", #[], none⟩) (v := .pointer (some ⟨g, 0, none⟩)) rfl (by kernel_rfl) (by kernel_rfl) (by kernel_rfl) (by kernel_rfl) (fun _ _ _ h => h) (Or.inl ⟨by kernel_rfl, fun W h => (by first | kernel_rfl | go_simp)⟩) hS ?_
    try simp only [Act.put, z1, z2, z3]
    refine wpAnyF_take (i := 1) (oi := ⟨some 183, .move (.tmp 9), 101, "base.go:552", #[], none⟩) (v := .pointer (some ⟨g, n * 5, none⟩)) rfl (by kernel_rfl) (by kernel_rfl) (by kernel_rfl) (by kernel_rfl) (fun _ _ _ h => h) (Or.inl ⟨by kernel_rfl, fun W h => (by first | kernel_rfl | go_simp)⟩) hS ?_
    try simp only [Act.put, z1, z2, z3]
    refine wpAnyF_take (i := 2) (oi := ⟨some 184, .fieldAddr 37 (.tmp 3) 3, 0, "base.go:552", #[], none⟩) (v := .pointer (some ⟨gx, 3, none⟩)) rfl (by kernel_rfl) (by kernel_rfl) (by kernel_rfl) (by kernel_rfl) (fun _ _ _ h => h) (Or.inl ⟨by kernel_rfl, fun W h => (by first | kernel_rfl | go_simp)⟩) hS ?_
    try simp only [Act.put, z1, z2, z3]
    refine wpAnyF_take (i := 3) (oi := ⟨some 185, .load 3 (.tmp 184), 3, "base.go:552", #[⟨2, .data⟩], none⟩) (v := .int .i64 (q : Int)) rfl (by kernel_rfl) (by kernel_rfl) (by kernel_rfl) (by kernel_rfl) (fun _ _ _ h => h) (Or.inl ⟨by kernel_rfl, fun W h => Op1.ld_int (.tmp 184) (by kernel_rfl) (by kernel_rfl) W (h.2.1)⟩) hS ?_
    try simp only [Act.put, z1, z2, z3]
    refine wpAnyF_take (i := 4) (oi := ⟨some 186, .nilCheck (.tmp 183), 0, "base.go:552", #[⟨1, .data⟩], none⟩) (v := .pointer (some ⟨g, n * 5, none⟩)) rfl (by kernel_rfl) (by kernel_rfl) (by kernel_rfl) (by kernel_rfl) (fun _ _ _ h => h) (Or.inl ⟨by kernel_rfl, fun W h => (by first | kernel_rfl | go_simp)⟩) hS ?_
    try simp only [Act.put, z1, z2, z3]
    refine wpAnyF_take (i := 5) (oi := ⟨some 187, .fieldAddr 24 (.tmp 186) 3, 0, "base.go:552", #[⟨4, .data⟩], none⟩) (v := .pointer (some ⟨g, n * 5 + 3, none⟩)) rfl (by kernel_rfl) (by kernel_rfl) (by kernel_rfl) (by kernel_rfl) (fun _ _ _ h => h) (Or.inl ⟨by kernel_rfl, fun W h => (by first | kernel_rfl | go_simp)⟩) hS ?_
    try simp only [Act.put, z1, z2, z3]
    refine wpAnyF_take (i := 6) (oi := ⟨some 188, .indexAddr 22 (.tmp 187) (.tmp 185), 0, "base.go:552", #[⟨5, .data⟩, ⟨3, .data⟩], none⟩) (v := .pointer (some ⟨g, n * 5 + 3 + q, none⟩)) rfl (by kernel_rfl) (by kernel_rfl) (by kernel_rfl) (by kernel_rfl) (fun _ _ _ h => h) (Or.inl ⟨by kernel_rfl, fun W h => Op1.ix_part (.tmp 187) (.tmp 185) (by kernel_rfl) (by kernel_rfl) (by kernel_rfl) (hq) W⟩) hS ?_
    try simp only [Act.put, z1, z2, z3]
    refine wpAnyF_take (i := 7) (oi := ⟨some 189, .load 3 (.tmp 188), 3, "base.go:552", #[⟨6, .data⟩], none⟩) (v := .int .i64 (x : Int)) rfl (by kernel_rfl) (by kernel_rfl) (by kernel_rfl) (by kernel_rfl) (fun _ _ _ h => h) (Or.inl ⟨by kernel_rfl, fun W h => Op1.ld_int (.tmp 188) (by kernel_rfl) (by kernel_rfl) W (by have := h.1.part n q hn8 hq; rw [unhide HP, Nat.zero_add] at this; exact this)⟩) hS ?_
    try simp only [Act.put, z1, z2, z3]
    refine wpAnyF_take (i := 8) (oi := ⟨some 190, .move (.tmp 9), 101, "base.go:552", #[], none⟩) (v := .pointer (some ⟨g, n * 5, none⟩)) rfl (by kernel_rfl) (by kernel_rfl) (by kernel_rfl) (by kernel_rfl) (fun _ _ _ h => h) (Or.inl ⟨by kernel_rfl, fun W h => (by first | kernel_rfl | go_simp)⟩) hS ?_
    try simp only [Act.put, z1, z2, z3]
    refine wpAnyF_take (i := 9) (oi := ⟨some 191, .nilCheck (.tmp 190), 0, "base.go:552", #[⟨8, .data⟩], none⟩) (v := .pointer (some ⟨g, n * 5, none⟩)) rfl (by kernel_rfl) (by kernel_rfl) (by kernel_rfl) (by kernel_rfl) (fun _ _ _ h => h) (Or.inl ⟨by kernel_rfl, fun W h => (by first | kernel_rfl | go_simp)⟩) hS ?_
    try simp only [Act.put, z1, z2, z3]
    refine wpAnyF_take (i := 10) (oi := ⟨some 192, .fieldAddr 24 (.tmp 191) 1, 0, "base.go:552", #[⟨9, .data⟩], none⟩) (v := .pointer (some ⟨g, n * 5 + 1, none⟩)) rfl (by kernel_rfl) (by kernel_rfl) (by kernel_rfl) (by kernel_rfl) (fun _ _ _ h => h) (Or.inl ⟨by kernel_rfl, fun W h => (by first | kernel_rfl | go_simp)⟩) hS ?_
    try simp only [Act.put, z1, z2, z3]
    refine wpAnyF_take (i := 11) (oi := ⟨some 193, .load 3 (.tmp 192), 3, "base.go:552", #[⟨10, .data⟩], none⟩) (v := .int .i64 (m6.stamp n)) rfl (by kernel_rfl) (by kernel_rfl) (by kernel_rfl) (by kernel_rfl) (fun _ _ _ h => h) (Or.inl ⟨by kernel_rfl, fun W h => Op1.ld_int (.tmp 192) (by kernel_rfl) (by kernel_rfl) W (by have := h.1.stamp n hn8; rw [Nat.zero_add] at this; exact this)⟩) hS ?_
    try simp only [Act.put, z1, z2, z3]
    refine wpAnyF_take (i := 12) (oi := ⟨some 194, .fieldAddr 37 (.tmp 3) 6, 0, "base.go:552", #[], none⟩) (v := .pointer (some ⟨gx, 6, none⟩)) rfl (by kernel_rfl) (by kernel_rfl) (by kernel_rfl) (by kernel_rfl) (fun _ _ _ h => h) (Or.inl ⟨by kernel_rfl, fun W h => (by first | kernel_rfl | go_simp)⟩) hS ?_
    try simp only [Act.put, z1, z2, z3]
    refine wpAnyF_take (i := 13) (oi := ⟨some 195, .load 9 (.tmp 194), 9, "base.go:552", #[⟨12, .data⟩], none⟩) (v := .string text) rfl (by kernel_rfl) (by kernel_rfl) (by kernel_rfl) (by kernel_rfl) (fun _ _ _ h => h) (Or.inl ⟨by kernel_rfl, fun W h => Op1.ld_str (.tmp 194) (by kernel_rfl) (by kernel_rfl) W (h.2.2)⟩) hS ?_
    try simp only [Act.put, z1, z2, z3]
    refine wpAnyF_take (i := 14) (oi := ⟨some 196, .build 31 #[(0, .tmp 193), (1, .tmp 195)], 31, "base.go:552", #[⟨11, .data⟩, ⟨13, .data⟩], none⟩) (v := .agg #[.int .i64 (m6.stamp n), .string text]) rfl (by kernel_rfl) (by kernel_rfl) (by kernel_rfl) (by kernel_rfl) (fun _ _ _ h => h) (Or.inl ⟨by kernel_rfl, fun W h => (by first | kernel_rfl | go_simp)⟩) hS ?_
    try simp only [Act.put, z1, z2, z3]
    refine wpAnyF_free (i := 15) (oi := ⟨some 197, .nilCheck (.tmp 182), 0, "base.go:552", #[⟨0, .data⟩], none⟩) (v := .pointer (some ⟨g, 0, none⟩)) rfl (by kernel_rfl) (by kernel_rfl) (by kernel_rfl) (by kernel_rfl) (fun _ _ _ h => h) (Or.inl ⟨by kernel_rfl, fun W _ => (by first | kernel_rfl | go_simp)⟩) hS ?_
    try simp only [Act.put, z1, z2, z3]
    refine wpAnyF_free (i := 16) (oi := ⟨some 198, .fieldAddr 48 (.tmp 197) 0, 0, "base.go:552", #[⟨15, .data⟩], none⟩) (v := .pointer (some ⟨g, 0, none⟩)) rfl (by kernel_rfl) (by kernel_rfl) (by kernel_rfl) (by kernel_rfl) (fun _ _ _ h => h) (Or.inl ⟨by kernel_rfl, fun W _ => (by first | kernel_rfl | go_simp)⟩) hS ?_
    try simp only [Act.put, z1, z2, z3]
    refine wpAnyF_free (i := 17) (oi := ⟨some 199, .fieldAddr 34 (.tmp 198) 2, 0, "base.go:552", #[⟨16, .data⟩], none⟩) (v := .pointer (some ⟨g, 76, none⟩)) rfl (by kernel_rfl) (by kernel_rfl) (by kernel_rfl) (by kernel_rfl) (fun _ _ _ h => h) (Or.inl ⟨by kernel_rfl, fun W _ => (by first | kernel_rfl | go_simp)⟩) hS ?_
    try simp only [Act.put, z1, z2, z3]
    refine wpAnyF_take (i := 18) (oi := ⟨some 200, .indexAddr 32 (.tmp 199) (.tmp 189), 0, "base.go:552", #[⟨17, .data⟩, ⟨7, .data⟩, ⟨0, .phase⟩, ⟨1, .phase⟩, ⟨2, .phase⟩, ⟨3, .phase⟩, ⟨4, .phase⟩, ⟨5, .phase⟩, ⟨6, .phase⟩, ⟨7, .phase⟩, ⟨8, .phase⟩, ⟨9, .phase⟩, ⟨10, .phase⟩, ⟨11, .phase⟩, ⟨12, .phase⟩, ⟨13, .phase⟩, ⟨14, .phase⟩], none⟩) (v := .pointer (some ⟨g, 76 + x * 2, none⟩)) rfl (by kernel_rfl) (by kernel_rfl) (by kernel_rfl) (by kernel_rfl) (fun _ _ _ h => h) (Or.inl ⟨by kernel_rfl, fun W h => Op1.ix_data (.tmp 199) (.tmp 189) (by kernel_rfl) (by kernel_rfl) (by kernel_rfl) (hx9) W⟩) hS ?_
    try simp only [Act.put, z1, z2, z3]
    refine wpAnyF_last (o := ⟨none, .store 31 (.tmp 200) (.tmp 196), 0, "base.go:552", #[⟨18, .data⟩, ⟨14, .data⟩, ⟨0, .phase⟩, ⟨1, .phase⟩, ⟨2, .phase⟩, ⟨3, .phase⟩, ⟨4, .phase⟩, ⟨5, .phase⟩, ⟨6, .phase⟩, ⟨7, .phase⟩, ⟨8, .phase⟩, ⟨9, .phase⟩, ⟨10, .phase⟩, ⟨11, .phase⟩, ⟨12, .phase⟩, ⟨13, .phase⟩, ⟨14, .phase⟩], none⟩) (by kernel_rfl) rfl (by kernel_rfl) (by kernel_rfl) (fun K hK => ?_)
    refine Op1.st_part (cells := #[.int .i64 (m6.stamp n), .string text]) (o0 := 76 + x * 2) 31 (.tmp 200) (.tmp 196) (by kernel_rfl) rfl (by kernel_rfl) (by kernel_rfl) (unhide S1).row sz_dat (by have := (unhide HM6).size; simp; omega) (by simp [Value.oneCell']) ?_
    refine hK.out _ _ ?_
    clear hK K
    try simp only [Act.put, z1, z2, z3]
    refine wpAnyF_done (by kernel_rfl) ?_ _
    have FF := hide (Bd.after (unhide CM) (Bd.dat (unhide S1) (unhide HM6) hx9 (m6.stamp n) text hx))
    clear hS
    go_wp2_with fail
    go_ret
    refine ⟨rfl, ?_⟩
    rw [unhide FIN]
    exact unhide FF
  · have u1 : decide (m.part n q < 0) = false := by rw [hpos]; simp
    have FIN := hide (show Img.putPart m k n q text = m.putData x (m.stamp n) text by
      unfold Img.putPart
      simp only [if_neg (show ¬ m.part n q < 0 by rw [hpos]; omega)]
      rw [hpos, Int.toNat_natCast])
    have HP := hide hpos
    rw [u1]
    clear hpos
    have S1 := hide ((unhide N4).call (Below.refl _ _).drew)
    go_wp2_with fail
    refine wp_region_F (S := fun W' => HasAt W' g 0 m ∧ W'.cell? ⟨gx, 3, none⟩ = some (.int .i64 (q : Int)) ∧ W'.cell? ⟨gx, 6, none⟩ = some (.string text)) 19 (by kernel_rfl) (⟨(unhide S1).has (unhide HM), unhide QB _ _ (unhide S1) 3 _ rfl, unhide QB _ _ (unhide S1) 6 _ rfl⟩) (fun hS => ?_)
    refine wpAnyF_take (i := 0) (oi := ⟨some 182, .move (.tmp 0), 44, "base.go:552", #[], none⟩) (v := .pointer (some ⟨g, 0, none⟩)) rfl (by kernel_rfl) (by kernel_rfl) (by kernel_rfl) (by kernel_rfl) (fun _ _ _ h => h) (Or.inl ⟨by kernel_rfl, fun W h => (by first | kernel_rfl | go_simp)⟩) hS ?_
    try simp only [Act.put, z1, z2, z3]
    refine wpAnyF_take (i := 1) (oi := ⟨some 183, .move (.tmp 9), 101, "base.go:552", #[], none⟩) (v := .pointer (some ⟨g, n * 5, none⟩)) rfl (by kernel_rfl) (by kernel_rfl) (by kernel_rfl) (by kernel_rfl) (fun _ _ _ h => h) (Or.inl ⟨by kernel_rfl, fun W h => (by first | kernel_rfl | go_simp)⟩) hS ?_
    try simp only [Act.put, z1, z2, z3]
    refine wpAnyF_take (i := 2) (oi := ⟨some 184, .fieldAddr 37 (.tmp 3) 3, 0, "base.go:552", #[], none⟩) (v := .pointer (some ⟨gx, 3, none⟩)) rfl (by kernel_rfl) (by kernel_rfl) (by kernel_rfl) (by kernel_rfl) (fun _ _ _ h => h) (Or.inl ⟨by kernel_rfl, fun W h => (by first | kernel_rfl | go_simp)⟩) hS ?_
    try simp only [Act.put, z1, z2, z3]
    refine wpAnyF_take (i := 3) (oi := ⟨some 185, .load 3 (.tmp 184), 3, "base.go:552", #[⟨2, .data⟩], none⟩) (v := .int .i64 (q : Int)) rfl (by kernel_rfl) (by kernel_rfl) (by kernel_rfl) (by kernel_rfl) (fun _ _ _ h => h) (Or.inl ⟨by kernel_rfl, fun W h => Op1.ld_int (.tmp 184) (by kernel_rfl) (by kernel_rfl) W (h.2.1)⟩) hS ?_
    try simp only [Act.put, z1, z2, z3]
    refine wpAnyF_take (i := 4) (oi := ⟨some 186, .nilCheck (.tmp 183), 0, "base.go:552", #[⟨1, .data⟩], none⟩) (v := .pointer (some ⟨g, n * 5, none⟩)) rfl (by kernel_rfl) (by kernel_rfl) (by kernel_rfl) (by kernel_rfl) (fun _ _ _ h => h) (Or.inl ⟨by kernel_rfl, fun W h => (by first | kernel_rfl | go_simp)⟩) hS ?_
    try simp only [Act.put, z1, z2, z3]
    refine wpAnyF_take (i := 5) (oi := ⟨some 187, .fieldAddr 24 (.tmp 186) 3, 0, "base.go:552", #[⟨4, .data⟩], none⟩) (v := .pointer (some ⟨g, n * 5 + 3, none⟩)) rfl (by kernel_rfl) (by kernel_rfl) (by kernel_rfl) (by kernel_rfl) (fun _ _ _ h => h) (Or.inl ⟨by kernel_rfl, fun W h => (by first | kernel_rfl | go_simp)⟩) hS ?_
    try simp only [Act.put, z1, z2, z3]
    refine wpAnyF_take (i := 6) (oi := ⟨some 188, .indexAddr 22 (.tmp 187) (.tmp 185), 0, "base.go:552", #[⟨5, .data⟩, ⟨3, .data⟩], none⟩) (v := .pointer (some ⟨g, n * 5 + 3 + q, none⟩)) rfl (by kernel_rfl) (by kernel_rfl) (by kernel_rfl) (by kernel_rfl) (fun _ _ _ h => h) (Or.inl ⟨by kernel_rfl, fun W h => Op1.ix_part (.tmp 187) (.tmp 185) (by kernel_rfl) (by kernel_rfl) (by kernel_rfl) (hq) W⟩) hS ?_
    try simp only [Act.put, z1, z2, z3]
    refine wpAnyF_take (i := 7) (oi := ⟨some 189, .load 3 (.tmp 188), 3, "base.go:552", #[⟨6, .data⟩], none⟩) (v := .int .i64 (x : Int)) rfl (by kernel_rfl) (by kernel_rfl) (by kernel_rfl) (by kernel_rfl) (fun _ _ _ h => h) (Or.inl ⟨by kernel_rfl, fun W h => Op1.ld_int (.tmp 188) (by kernel_rfl) (by kernel_rfl) W (by have := h.1.part n q hn8 hq; rw [unhide HP, Nat.zero_add] at this; exact this)⟩) hS ?_
    try simp only [Act.put, z1, z2, z3]
    refine wpAnyF_take (i := 8) (oi := ⟨some 190, .move (.tmp 9), 101, "base.go:552", #[], none⟩) (v := .pointer (some ⟨g, n * 5, none⟩)) rfl (by kernel_rfl) (by kernel_rfl) (by kernel_rfl) (by kernel_rfl) (fun _ _ _ h => h) (Or.inl ⟨by kernel_rfl, fun W h => (by first | kernel_rfl | go_simp)⟩) hS ?_
    try simp only [Act.put, z1, z2, z3]
    refine wpAnyF_take (i := 9) (oi := ⟨some 191, .nilCheck (.tmp 190), 0, "base.go:552", #[⟨8, .data⟩], none⟩) (v := .pointer (some ⟨g, n * 5, none⟩)) rfl (by kernel_rfl) (by kernel_rfl) (by kernel_rfl) (by kernel_rfl) (fun _ _ _ h => h) (Or.inl ⟨by kernel_rfl, fun W h => (by first | kernel_rfl | go_simp)⟩) hS ?_
    try simp only [Act.put, z1, z2, z3]
    refine wpAnyF_take (i := 10) (oi := ⟨some 192, .fieldAddr 24 (.tmp 191) 1, 0, "base.go:552", #[⟨9, .data⟩], none⟩) (v := .pointer (some ⟨g, n * 5 + 1, none⟩)) rfl (by kernel_rfl) (by kernel_rfl) (by kernel_rfl) (by kernel_rfl) (fun _ _ _ h => h) (Or.inl ⟨by kernel_rfl, fun W h => (by first | kernel_rfl | go_simp)⟩) hS ?_
    try simp only [Act.put, z1, z2, z3]
    refine wpAnyF_take (i := 11) (oi := ⟨some 193, .load 3 (.tmp 192), 3, "base.go:552", #[⟨10, .data⟩], none⟩) (v := .int .i64 (m.stamp n)) rfl (by kernel_rfl) (by kernel_rfl) (by kernel_rfl) (by kernel_rfl) (fun _ _ _ h => h) (Or.inl ⟨by kernel_rfl, fun W h => Op1.ld_int (.tmp 192) (by kernel_rfl) (by kernel_rfl) W (by have := h.1.stamp n hn8; rw [Nat.zero_add] at this; exact this)⟩) hS ?_
    try simp only [Act.put, z1, z2, z3]
    refine wpAnyF_take (i := 12) (oi := ⟨some 194, .fieldAddr 37 (.tmp 3) 6, 0, "base.go:552", #[], none⟩) (v := .pointer (some ⟨gx, 6, none⟩)) rfl (by kernel_rfl) (by kernel_rfl) (by kernel_rfl) (by kernel_rfl) (fun _ _ _ h => h) (Or.inl ⟨by kernel_rfl, fun W h => (by first | kernel_rfl | go_simp)⟩) hS ?_
    try simp only [Act.put, z1, z2, z3]
    refine wpAnyF_take (i := 13) (oi := ⟨some 195, .load 9 (.tmp 194), 9, "base.go:552", #[⟨12, .data⟩], none⟩) (v := .string text) rfl (by kernel_rfl) (by kernel_rfl) (by kernel_rfl) (by kernel_rfl) (fun _ _ _ h => h) (Or.inl ⟨by kernel_rfl, fun W h => Op1.ld_str (.tmp 194) (by kernel_rfl) (by kernel_rfl) W (h.2.2)⟩) hS ?_
    try simp only [Act.put, z1, z2, z3]
    refine wpAnyF_take (i := 14) (oi := ⟨some 196, .build 31 #[(0, .tmp 193), (1, .tmp 195)], 31, "base.go:552", #[⟨11, .data⟩, ⟨13, .data⟩], none⟩) (v := .agg #[.int .i64 (m.stamp n), .string text]) rfl (by kernel_rfl) (by kernel_rfl) (by kernel_rfl) (by kernel_rfl) (fun _ _ _ h => h) (Or.inl ⟨by kernel_rfl, fun W h => (by first | kernel_rfl | go_simp)⟩) hS ?_
    try simp only [Act.put, z1, z2, z3]
    refine wpAnyF_free (i := 15) (oi := ⟨some 197, .nilCheck (.tmp 182), 0, "base.go:552", #[⟨0, .data⟩], none⟩) (v := .pointer (some ⟨g, 0, none⟩)) rfl (by kernel_rfl) (by kernel_rfl) (by kernel_rfl) (by kernel_rfl) (fun _ _ _ h => h) (Or.inl ⟨by kernel_rfl, fun W _ => (by first | kernel_rfl | go_simp)⟩) hS ?_
    try simp only [Act.put, z1, z2, z3]
    refine wpAnyF_free (i := 16) (oi := ⟨some 198, .fieldAddr 48 (.tmp 197) 0, 0, "base.go:552", #[⟨15, .data⟩], none⟩) (v := .pointer (some ⟨g, 0, none⟩)) rfl (by kernel_rfl) (by kernel_rfl) (by kernel_rfl) (by kernel_rfl) (fun _ _ _ h => h) (Or.inl ⟨by kernel_rfl, fun W _ => (by first | kernel_rfl | go_simp)⟩) hS ?_
    try simp only [Act.put, z1, z2, z3]
    refine wpAnyF_free (i := 17) (oi := ⟨some 199, .fieldAddr 34 (.tmp 198) 2, 0, "base.go:552", #[⟨16, .data⟩], none⟩) (v := .pointer (some ⟨g, 76, none⟩)) rfl (by kernel_rfl) (by kernel_rfl) (by kernel_rfl) (by kernel_rfl) (fun _ _ _ h => h) (Or.inl ⟨by kernel_rfl, fun W _ => (by first | kernel_rfl | go_simp)⟩) hS ?_
    try simp only [Act.put, z1, z2, z3]
    refine wpAnyF_take (i := 18) (oi := ⟨some 200, .indexAddr 32 (.tmp 199) (.tmp 189), 0, "base.go:552", #[⟨17, .data⟩, ⟨7, .data⟩, ⟨0, .phase⟩, ⟨1, .phase⟩, ⟨2, .phase⟩, ⟨3, .phase⟩, ⟨4, .phase⟩, ⟨5, .phase⟩, ⟨6, .phase⟩, ⟨7, .phase⟩, ⟨8, .phase⟩, ⟨9, .phase⟩, ⟨10, .phase⟩, ⟨11, .phase⟩, ⟨12, .phase⟩, ⟨13, .phase⟩, ⟨14, .phase⟩], none⟩) (v := .pointer (some ⟨g, 76 + x * 2, none⟩)) rfl (by kernel_rfl) (by kernel_rfl) (by kernel_rfl) (by kernel_rfl) (fun _ _ _ h => h) (Or.inl ⟨by kernel_rfl, fun W h => Op1.ix_data (.tmp 199) (.tmp 189) (by kernel_rfl) (by kernel_rfl) (by kernel_rfl) (hx9) W⟩) hS ?_
    try simp only [Act.put, z1, z2, z3]
    refine wpAnyF_last (o := ⟨none, .store 31 (.tmp 200) (.tmp 196), 0, "base.go:552", #[⟨18, .data⟩, ⟨14, .data⟩, ⟨0, .phase⟩, ⟨1, .phase⟩, ⟨2, .phase⟩, ⟨3, .phase⟩, ⟨4, .phase⟩, ⟨5, .phase⟩, ⟨6, .phase⟩, ⟨7, .phase⟩, ⟨8, .phase⟩, ⟨9, .phase⟩, ⟨10, .phase⟩, ⟨11, .phase⟩, ⟨12, .phase⟩, ⟨13, .phase⟩, ⟨14, .phase⟩], none⟩) (by kernel_rfl) rfl (by kernel_rfl) (by kernel_rfl) (fun K hK => ?_)
    refine Op1.st_part (cells := #[.int .i64 (m.stamp n), .string text]) (o0 := 76 + x * 2) 31 (.tmp 200) (.tmp 196) (by kernel_rfl) rfl (by kernel_rfl) (by kernel_rfl) (unhide S1).row sz_dat (by have := (unhide HM).size; simp; omega) (by simp [Value.oneCell']) ?_
    refine hK.out _ _ ?_
    clear hK K
    try simp only [Act.put, z1, z2, z3]
    refine wpAnyF_done (by kernel_rfl) ?_ _
    have FF := hide (Bd.after (unhide CM) (Bd.dat (unhide S1) (unhide HM) hx9 (m.stamp n) text hx))
    clear hS
    go_wp2_with fail
    go_ret
    refine ⟨rfl, ?_⟩
    rw [unhide FIN]
    exact unhide FF
set_option maxHeartbeats 4000000 in
set_option maxRecDepth 100000 in
theorem files0_cut (h : W.heap[g]? = some (.cells (cs ++ (ds ++ Sft.btl last t1 t2 t3 t4)) 48)) (hm : IsImg cs m) (hk : IsImg ds k) (hG : Img.Good m last) (dir toDir p : Int) (name tu text : ByteArray) (hn : name.size ≤ maxLen) (ht : tu.size ≤ maxLen) (hx : text.size ≤ maxLen) (hc : Img.scode m k ⟨6, dir, toDir, p, name, tu, text⟩ = 0) :
    Calls Tryz.prog 51 #[.pointer (some ⟨g, 0, none⟩), .agg (stpA ⟨6, dir, toDir, p, name, tu, text⟩)] W fun e w' => e = .returned (.int .i64 0) ∧ Bd W w' g ds (Sft.btl (Img.slast m k last ⟨6, dir, toDir, p, name, tu, text⟩) t1 t2 t3 t4) (Img.sstep m k last ⟨6, dir, toDir, p, name, tu, text⟩) := by
  have tk := Img.take hc
  have hst : Img.sstep m k last ⟨6, dir, toDir, p, name, tu, text⟩ = m.setPart (Img.inoOf m dir name).toNat p.toNat (-1) := by
    rcases Img.sstep_cases (last := last) hc with ⟨z, e⟩ | ⟨z, e⟩ | ⟨z, e⟩ | ⟨z, e⟩ | ⟨z, e⟩ | ⟨z, e⟩
    all_goals first | exact e | (exfalso; revert z; decide) | (simp at z)
  have hsl : Img.slast m k last ⟨6, dir, toDir, p, name, tu, text⟩ = last := by unfold Img.slast; first | rw [if_pos ⟨hc, rfl⟩] | rw [if_neg (fun z => by have := z.2; simp at this)]
  rw [hst, hsl]
  clear hst hsl
  have hne := Img.nm_ne tk.name
  have d0' : 0 ≤ dir := tk.dir.1
  have d3' : dir < 3 := tk.dir.2
  obtain ⟨d, rfl⟩ := Int.eq_ofNat_of_zero_le d0'
  have hd3 : d < 3 := by omega
  have hck := tk.chk
  obtain ⟨q0, q2⟩ := tk.part (.inr rfl)
  have q0 : 0 ≤ p := q0
  have q2 : p < 2 := q2
  obtain ⟨q, rfl⟩ := Int.eq_ofNat_of_zero_le q0
  have hq : q < 2 := by omega
  clear q0 q2
  obtain ⟨j, n, hT⟩ := Img.there hG.ex.ok (tk.old (by simp))
  simp only [Int.toNat_natCast]
  rw [show (Img.inoOf m (d : Int) name).toNat = n by rw [show Img.inoOf m (d : Int) name = (n : Int) from hT.of]; rfl]
  have hfd : m.find d name.toList = (j : Int) := by rw [← Sft.findAt_in hd3 hne]; exact hT.at_
  have hj4 := hT.k4
  have hn8 := hT.n8
  have hino : m.ino d j = (n : Int) := hT.ino
  have HI := hide hino
  have jn : decide ((j : Int) < 0) = false := by simp
  have nz : (n : Int) < 8 := by omega
  clear hc tk hT d0' d3' hG hino
  have BEL := hide (show Below W.heap.size W (W.alloc (.cells (stpA ⟨6, (d : Int), toDir, (q : Int), name, tu, text⟩) 37)) from (Below.refl _ W).alloc (Nat.le_refl _) _)
  have C1 := hide (Idl.stepFault_any ⟨6, (d : Int), toDir, (q : Int), name, tu, text⟩ hn ht hx (W.alloc (.cells (stpA ⟨6, (d : Int), toDir, (q : Int), name, tu, text⟩) 37)))
  rw [hck] at C1
  have HC := hide fun W' bW => stp_box W ⟨6, (d : Int), toDir, (q : Int), name, tu, text⟩ W' bW
  have M0 := hide ((Bm.start h).call (unhide BEL))
  have GN := hide (show W.heap.size ≠ g from by have := (Array.getElem?_eq_some_iff.1 h).1; omega)
  have RX := hide (heap_alloc_last W (.cells (stpA ⟨6, (d : Int), toDir, (q : Int), name, tu, text⟩) 37))
  have HM := hide hm
  have HK := hide hk
  have HFD := hide hfd
  clear h hck hfd hm hk
  simp only [stpA] at C1
  go_enter Tryz.func51, Tryz.ntmps51
  go_wp2_with fail
  refine (unhide C1).mono ?_
  rintro e w1 ⟨rfl, b1⟩
  have M1 := hide ((unhide M0).call b1)
  have HD := hide (b1.trans ((Below.refl w1.heap.size w1).drew.mono b1.size))
  have M2 := hide ((unhide M1).call (Below.refl w1.heap.size w1).drew)
  clear b1 C1 M0 M1
  generalize W.heap.size = gx at *
  go_wp2_with fail
  refine wp_region_held_drew (S := fun W' => HasAt W' g 0 m ∧ W'.cell? ⟨gx, 1, none⟩ = some (.int .i64 (d : Int)) ∧ W'.cell? ⟨gx, 4, none⟩ = some (.string name)) (by kernel_rfl) (⟨(unhide M2).has (unhide HM), unhide HC _ (unhide HD) 1 _ rfl, unhide HC _ (unhide HD) 4 _ rfl⟩) (fun hS => ?_)
  refine tkP (i := 0) (oi := ⟨some 16, .move (.tmp 0), 44, "base.go:507", #[], none⟩) (v := .pointer (some ⟨g, 0, none⟩)) hS ?_
  try simp only [Act.put, z1, z2, z3]
  refine tkP (i := 1) (oi := ⟨some 17, .nilCheck (.tmp 16), 0, "base.go:507", #[⟨0, .data⟩], none⟩) (v := .pointer (some ⟨g, 0, none⟩)) hS ?_
  try simp only [Act.put, z1, z2, z3]
  refine tkP (i := 2) (oi := ⟨some 18, .fieldAddr 48 (.tmp 17) 0, 0, "base.go:507", #[⟨1, .data⟩], none⟩) (v := .pointer (some ⟨g, 0, none⟩)) hS ?_
  try simp only [Act.put, z1, z2, z3]
  refine tkP (i := 3) (oi := ⟨some 19, .fieldAddr 37 (.tmp 3) 1, 0, "base.go:507", #[], none⟩) (v := .pointer (some ⟨gx, 1, none⟩)) hS ?_
  try simp only [Act.put, z1, z2, z3]
  refine tkH (i := 4) (oi := ⟨some 20, .load 3 (.tmp 19), 3, "base.go:507", #[⟨3, .data⟩], none⟩) (v := .int .i64 (d : Int)) (fun W h => Op1.ld_int (.tmp 19) (by kernel_rfl) (by kernel_rfl) W (h.2.1)) hS ?_
  try simp only [Act.put, z1, z2, z3]
  refine tkP (i := 5) (oi := ⟨some 21, .fieldAddr 37 (.tmp 3) 4, 0, "base.go:507", #[], none⟩) (v := .pointer (some ⟨gx, 4, none⟩)) hS ?_
  try simp only [Act.put, z1, z2, z3]
  refine tkH (i := 6) (oi := ⟨some 22, .load 9 (.tmp 21), 9, "base.go:507", #[⟨5, .data⟩], none⟩) (v := .string name) (fun W h => Op1.ld_str (.tmp 21) (by kernel_rfl) (by kernel_rfl) W (h.2.2)) hS ?_
  try simp only [Act.put, z1, z2, z3]
  refine wpAnyH_ready (rs := [7]) (by kernel_rfl) (by simp) ?_
  refine AllReadyH.cons (o := ⟨some 23, .call { callee := .value (.func 46), args := #[.tmp 18, .tmp 20, .tmp 22], argTypes := #[50, 3, 9] }, 3, "base.go:507", #[⟨2, .data⟩, ⟨4, .data⟩, ⟨6, .data⟩], none⟩) rfl (fun K hK => ?_) AllReadyH.nil
  rw [if_pos (by kernel_rfl)]
  go_simp
  refine (rSlotOf_in g m d hd3 name hne _ ((unhide M2).has (unhide HM))).mono ?_
  rintro e w2 ⟨rfl, e9⟩
  rw [e9]
  clear e9 w2
  rw [unhide HFD]
  go_wp2_with fail
  refine hK.out _ _ (hS) (fun hS2 => ?_)
  clear hK K
  try simp only [Act.put, z1, z2, z3]
  refine tkP (i := 8) (oi := ⟨some 6, .assign (.tmp 23), 3, "base.go:507", #[⟨7, .data⟩, ⟨7, .chain⟩, ⟨0, .phase⟩, ⟨1, .phase⟩, ⟨2, .phase⟩, ⟨3, .phase⟩, ⟨4, .phase⟩, ⟨5, .phase⟩, ⟨6, .phase⟩, ⟨7, .phase⟩], none⟩) (v := .int .i64 ((j : Int))) hS2 ?_
  try simp only [Act.put, z1, z2, z3]
  refine wpAnyH_done (by kernel_rfl) ?_ _
  clear hS hS2
  have RV : w1.drew.heap[gx]? = some (.cells (stpA ⟨6, (d : Int), toDir, (q : Int), name, tu, text⟩) 37) := by
    rw [(unhide HD).block gx (Array.getElem?_eq_some_iff.1 (unhide RX)).1]; exact unhide RX
  have hgl : gx < w1.drew.heap.size := (Array.getElem?_eq_some_iff.1 RV).1
  have QB := hide (show ∀ (W' : World) (rows : Array Value), Bm w1.drew W' g rows → ∀ j u, (stpA ⟨6, (d : Int), toDir, (q : Int), name, tu, text⟩)[j]? = some u → W'.cell? ⟨gx, j, none⟩ = some u from fun W' rows N j u hj => by rw [cell_of_row _ _ _ _ _ _ ((N.chg.block gx hgl (unhide GN)).trans RV)]; exact hj)
  have N2 := hide (Bm.start (unhide M2).row)
  have CM := hide (unhide M2).chg
  clear RV hgl HC HD M2 BEL RX HFD GN
  generalize w1.drew = V at *
  have q0 := unhide QB _ _ (unhide N2) 0 _ rfl
  have N3 := hide ((unhide N2).call (Below.refl _ _).drew)
  go_wp2_with fail
  refine wp_region_held_drew (S := fun W' => HasAt W' g 0 m ∧ W'.cell? ⟨gx, 1, none⟩ = some (.int .i64 (d : Int))) (by kernel_rfl) (⟨(unhide N3).has (unhide HM), unhide QB _ _ (unhide N3) 1 _ rfl⟩) (fun hS => ?_)
  refine tkP (i := 0) (oi := ⟨some 83, .move (.tmp 0), 44, "base.go:526", #[], none⟩) (v := .pointer (some ⟨g, 0, none⟩)) hS ?_
  try simp only [Act.put, z1, z2, z3]
  refine tkP (i := 1) (oi := ⟨some 84, .fieldAddr 37 (.tmp 3) 1, 0, "base.go:526", #[], none⟩) (v := .pointer (some ⟨gx, 1, none⟩)) hS ?_
  try simp only [Act.put, z1, z2, z3]
  refine tkH (i := 2) (oi := ⟨some 85, .load 3 (.tmp 84), 3, "base.go:526", #[⟨1, .data⟩], none⟩) (v := .int .i64 (d : Int)) (fun W h => Op1.ld_int (.tmp 84) (by kernel_rfl) (by kernel_rfl) W (h.2)) hS ?_
  try simp only [Act.put, z1, z2, z3]
  refine tkP (i := 3) (oi := ⟨some 86, .move (.tmp 6), 3, "base.go:526", #[], none⟩) (v := .int .i64 (j : Int)) hS ?_
  try simp only [Act.put, z1, z2, z3]
  refine tkP (i := 4) (oi := ⟨some 87, .nilCheck (.tmp 83), 0, "base.go:526", #[⟨0, .data⟩], none⟩) (v := .pointer (some ⟨g, 0, none⟩)) hS ?_
  try simp only [Act.put, z1, z2, z3]
  refine tkP (i := 5) (oi := ⟨some 88, .fieldAddr 48 (.tmp 87) 0, 0, "base.go:526", #[⟨4, .data⟩], none⟩) (v := .pointer (some ⟨g, 0, none⟩)) hS ?_
  try simp only [Act.put, z1, z2, z3]
  refine tkP (i := 6) (oi := ⟨some 89, .fieldAddr 34 (.tmp 88) 1, 0, "base.go:526", #[⟨5, .data⟩], none⟩) (v := .pointer (some ⟨g, 40, none⟩)) hS ?_
  try simp only [Act.put, z1, z2, z3]
  refine tkH (i := 7) (oi := ⟨some 90, .indexAddr 29 (.tmp 89) (.tmp 85), 0, "base.go:526", #[⟨6, .data⟩, ⟨2, .data⟩], none⟩) (v := .pointer (some ⟨g, 40 + d * 12, none⟩)) (fun W h => Op1.ix_dir (.tmp 89) (.tmp 85) (by kernel_rfl) (by kernel_rfl) (by kernel_rfl) (hd3) W) hS ?_
  try simp only [Act.put, z1, z2, z3]
  refine tkH (i := 8) (oi := ⟨some 91, .indexAddr 28 (.tmp 90) (.tmp 86), 0, "base.go:526", #[⟨7, .data⟩, ⟨3, .data⟩], none⟩) (v := .pointer (some ⟨g, 40 + d * 12 + j * 3, none⟩)) (fun W h => Op1.ix_slot (.tmp 90) (.tmp 86) (by kernel_rfl) (by kernel_rfl) (by kernel_rfl) (hj4) W) hS ?_
  try simp only [Act.put, z1, z2, z3]
  refine tkP (i := 9) (oi := ⟨some 92, .fieldAddr 27 (.tmp 91) 1, 0, "base.go:526", #[⟨8, .data⟩], none⟩) (v := .pointer (some ⟨g, 40 + d * 12 + j * 3 + 1, none⟩)) hS ?_
  try simp only [Act.put, z1, z2, z3]
  refine tkH (i := 10) (oi := ⟨some 93, .load 3 (.tmp 92), 3, "base.go:526", #[⟨9, .data⟩], none⟩) (v := .int .i64 (n : Int)) (fun W h => Op1.ld_int (.tmp 92) (by kernel_rfl) (by kernel_rfl) W (by have := h.1.ino d j hd3 hj4; rw [unhide HI, Nat.zero_add] at this; exact this)) hS ?_
  try simp only [Act.put, z1, z2, z3]
  refine tkP (i := 11) (oi := ⟨some 8, .assign (.tmp 93), 3, "base.go:526", #[⟨10, .data⟩, ⟨0, .phase⟩, ⟨1, .phase⟩, ⟨2, .phase⟩, ⟨3, .phase⟩, ⟨4, .phase⟩, ⟨5, .phase⟩, ⟨6, .phase⟩, ⟨7, .phase⟩, ⟨8, .phase⟩, ⟨9, .phase⟩, ⟨10, .phase⟩], none⟩) (v := .int .i64 (n : Int)) hS ?_
  try simp only [Act.put, z1, z2, z3]
  refine wpAnyH_done (by kernel_rfl) ?_ _
  clear hS q0 N2 jn
  generalize V.drew = V1 at *
  have q0 := unhide QB _ _ (unhide N3) 0 _ rfl
  have N4 := hide ((unhide N3).call (Below.refl _ _).drew)
  go_wp2_with fail
  refine wp_region_F (S := fun W' => HasAt W' g 0 m ∧ W'.cell? ⟨gx, 3, none⟩ = some (.int .i64 (q : Int))) 6 (by kernel_rfl) (⟨(unhide N4).has (unhide HM), unhide QB _ _ (unhide N4) 3 _ rfl⟩) (fun hS => ?_)
  refine wpAnyF_take (i := 0) (oi := ⟨some 203, .move (.tmp 9), 101, "base.go:554", #[], none⟩) (v := .pointer (some ⟨g, n * 5, none⟩)) rfl (by kernel_rfl) (by kernel_rfl) (by kernel_rfl) (by kernel_rfl) (fun _ _ _ h => h) (Or.inl ⟨by kernel_rfl, fun W h => (by first | kernel_rfl | go_simp)⟩) hS ?_
  try simp only [Act.put, z1, z2, z3]
  refine wpAnyF_take (i := 1) (oi := ⟨some 204, .fieldAddr 37 (.tmp 3) 3, 0, "base.go:554", #[], none⟩) (v := .pointer (some ⟨gx, 3, none⟩)) rfl (by kernel_rfl) (by kernel_rfl) (by kernel_rfl) (by kernel_rfl) (fun _ _ _ h => h) (Or.inl ⟨by kernel_rfl, fun W h => (by first | kernel_rfl | go_simp)⟩) hS ?_
  try simp only [Act.put, z1, z2, z3]
  refine wpAnyF_take (i := 2) (oi := ⟨some 205, .load 3 (.tmp 204), 3, "base.go:554", #[⟨1, .data⟩], none⟩) (v := .int .i64 (q : Int)) rfl (by kernel_rfl) (by kernel_rfl) (by kernel_rfl) (by kernel_rfl) (fun _ _ _ h => h) (Or.inl ⟨by kernel_rfl, fun W h => Op1.ld_int (.tmp 204) (by kernel_rfl) (by kernel_rfl) W (h.2)⟩) hS ?_
  try simp only [Act.put, z1, z2, z3]
  refine wpAnyF_free (i := 3) (oi := ⟨some 206, .nilCheck (.tmp 203), 0, "base.go:554", #[⟨0, .data⟩], none⟩) (v := .pointer (some ⟨g, n * 5, none⟩)) rfl (by kernel_rfl) (by kernel_rfl) (by kernel_rfl) (by kernel_rfl) (fun _ _ _ h => h) (Or.inl ⟨by kernel_rfl, fun W _ => (by first | kernel_rfl | go_simp)⟩) hS ?_
  try simp only [Act.put, z1, z2, z3]
  refine wpAnyF_free (i := 4) (oi := ⟨some 207, .fieldAddr 24 (.tmp 206) 3, 0, "base.go:554", #[⟨3, .data⟩], none⟩) (v := .pointer (some ⟨g, n * 5 + 3, none⟩)) rfl (by kernel_rfl) (by kernel_rfl) (by kernel_rfl) (by kernel_rfl) (fun _ _ _ h => h) (Or.inl ⟨by kernel_rfl, fun W _ => (by first | kernel_rfl | go_simp)⟩) hS ?_
  try simp only [Act.put, z1, z2, z3]
  refine wpAnyF_take (i := 5) (oi := ⟨some 208, .indexAddr 22 (.tmp 207) (.tmp 205), 0, "base.go:554", #[⟨4, .data⟩, ⟨2, .data⟩, ⟨0, .phase⟩, ⟨1, .phase⟩, ⟨2, .phase⟩], none⟩) (v := .pointer (some ⟨g, n * 5 + 3 + q, none⟩)) rfl (by kernel_rfl) (by kernel_rfl) (by kernel_rfl) (by kernel_rfl) (fun _ _ _ h => h) (Or.inl ⟨by kernel_rfl, fun W h => Op1.ix_part (.tmp 207) (.tmp 205) (by kernel_rfl) (by kernel_rfl) (by kernel_rfl) (hq) W⟩) hS ?_
  try simp only [Act.put, z1, z2, z3]
  refine wpAnyF_last (o := ⟨none, .store 3 (.tmp 208) (.const (.int .i64 (-1))), 0, "base.go:554", #[⟨5, .data⟩, ⟨0, .phase⟩, ⟨1, .phase⟩, ⟨2, .phase⟩], none⟩) (by kernel_rfl) rfl (by kernel_rfl) (by kernel_rfl) (fun K hK => ?_)
  refine Op1.st_int (v := -1) (.tmp 208) (.const (.int .i64 (-1))) (by kernel_rfl) rfl (by kernel_rfl) (by kernel_rfl) (by have := hS.1.part n q hn8 hq; rw [Nat.zero_add] at this; exact this) ((unhide N4).frozen _) ?_
  refine hK.out _ _ ?_
  clear hK K
  try simp only [Act.put, z1, z2, z3]
  refine wpAnyF_done (by kernel_rfl) ?_ _
  have FF := hide (Bd.after (unhide CM) (Bd.part (unhide N4) (unhide HM) hn8 hq (-1)))
  clear hS q0
  go_wp2_with fail
  go_ret
  exact ⟨rfl, unhide FF⟩
end
end Go.Proofs.YtmbpckmpnnmnmabGreat
namespace Go.Proofs.YtmbpckmpnnmnmabGreat
open Go.RowKit
open Idl (Stp chk stpA)
theorem Op1.geq0t {o : Oper} {ρ : Operand → Value} (x : Operand) (ho : o.op = .binOp .geq 3 x (.const (.int .i64 0)) 3) {j : Nat} (hx : ρ x = .int .i64 (j : Int)) (hy : ρ (.const (.int .i64 0)) = .int .i64 0) (w : World) : (execOp ρ o).run Tryz.prog w = .ok (.value (.bool true)) w := by
  have hv : decide (0 ≤ (j : Int)) = true := by simp
  unfold execOp
  rw [ho]
  go_simp
theorem Bm.after {w0 w w' : World} {g : Nat} {rows : Array Value} (b : Bm w w' g rows) (h : Idl.Chg (fun i => i = g) w0 w) : Bm w0 w' g rows := ⟨b.row, h.trans b.chg (fun _ hi => .inl hi)⟩
section
variable {w W : World} {g : Nat} {cs ds : Array Value} {m k : Img} {last : Int} {t1 t2 t3 t4 : Value}
set_option maxHeartbeats 4000000 in
set_option maxRecDepth 100000 in
theorem files0_makeThere (h : W.heap[g]? = some (.cells (cs ++ (ds ++ Sft.btl last t1 t2 t3 t4)) 48)) (hm : IsImg cs m) (hk : IsImg ds k) (toDir p : Int) (name tu text : ByteArray) (hn : name.size ≤ maxLen) (ht : tu.size ≤ maxLen) (hx : text.size ≤ maxLen) {d : Nat} (hd3 : d < 3) (hne : name.toList.isEmpty = false) (hck : chk ⟨1, (d : Int), toDir, p, name, tu, text⟩ = 0) {j : Nat} (hfd : m.find d name.toList = (j : Int)) :
    Calls Tryz.prog 51 #[.pointer (some ⟨g, 0, none⟩), .agg (stpA ⟨1, (d : Int), toDir, p, name, tu, text⟩)] W fun e w' => e = .returned (.int .i64 4) ∧ Bm W w' g (cs ++ (ds ++ Sft.btl last t1 t2 t3 t4)) := by
  have BEL := hide (show Below W.heap.size W (W.alloc (.cells (stpA ⟨1, (d : Int), toDir, p, name, tu, text⟩) 37)) from (Below.refl _ W).alloc (Nat.le_refl _) _)
  have C1 := hide (Idl.stepFault_any ⟨1, (d : Int), toDir, p, name, tu, text⟩ hn ht hx (W.alloc (.cells (stpA ⟨1, (d : Int), toDir, p, name, tu, text⟩) 37)))
  rw [hck] at C1
  have HC := hide fun W' bW => stp_box W ⟨1, (d : Int), toDir, p, name, tu, text⟩ W' bW
  have M0 := hide ((Bm.start h).call (unhide BEL))
  have GN := hide (show W.heap.size ≠ g from by have := (Array.getElem?_eq_some_iff.1 h).1; omega)
  have RX := hide (heap_alloc_last W (.cells (stpA ⟨1, (d : Int), toDir, p, name, tu, text⟩) 37))
  have HM := hide hm
  have HK := hide hk
  have HFD := hide hfd
  clear h hck hfd hm hk
  simp only [stpA] at C1
  go_enter Tryz.func51, Tryz.ntmps51
  go_wp2_with fail
  refine (unhide C1).mono ?_
  rintro e w1 ⟨rfl, b1⟩
  have M1 := hide ((unhide M0).call b1)
  have HD := hide (b1.trans ((Below.refl w1.heap.size w1).drew.mono b1.size))
  have M2 := hide ((unhide M1).call (Below.refl w1.heap.size w1).drew)
  clear b1 C1 M0 M1
  generalize W.heap.size = gx at *
  go_wp2_with fail
  refine wp_region_held_drew (S := fun W' => HasAt W' g 0 m ∧ W'.cell? ⟨gx, 1, none⟩ = some (.int .i64 (d : Int)) ∧ W'.cell? ⟨gx, 4, none⟩ = some (.string name)) (by kernel_rfl) (⟨(unhide M2).has (unhide HM), unhide HC _ (unhide HD) 1 _ rfl, unhide HC _ (unhide HD) 4 _ rfl⟩) (fun hS => ?_)
  refine tkP (i := 0) (oi := ⟨some 16, .move (.tmp 0), 44, "base.go:507", #[], none⟩) (v := .pointer (some ⟨g, 0, none⟩)) hS ?_
  try simp only [Act.put, z1, z2, z3]
  refine tkP (i := 1) (oi := ⟨some 17, .nilCheck (.tmp 16), 0, "base.go:507", #[⟨0, .data⟩], none⟩) (v := .pointer (some ⟨g, 0, none⟩)) hS ?_
  try simp only [Act.put, z1, z2, z3]
  refine tkP (i := 2) (oi := ⟨some 18, .fieldAddr 48 (.tmp 17) 0, 0, "base.go:507", #[⟨1, .data⟩], none⟩) (v := .pointer (some ⟨g, 0, none⟩)) hS ?_
  try simp only [Act.put, z1, z2, z3]
  refine tkP (i := 3) (oi := ⟨some 19, .fieldAddr 37 (.tmp 3) 1, 0, "base.go:507", #[], none⟩) (v := .pointer (some ⟨gx, 1, none⟩)) hS ?_
  try simp only [Act.put, z1, z2, z3]
  refine tkH (i := 4) (oi := ⟨some 20, .load 3 (.tmp 19), 3, "base.go:507", #[⟨3, .data⟩], none⟩) (v := .int .i64 (d : Int)) (fun W h => Op1.ld_int (.tmp 19) (by kernel_rfl) (by kernel_rfl) W (h.2.1)) hS ?_
  try simp only [Act.put, z1, z2, z3]
  refine tkP (i := 5) (oi := ⟨some 21, .fieldAddr 37 (.tmp 3) 4, 0, "base.go:507", #[], none⟩) (v := .pointer (some ⟨gx, 4, none⟩)) hS ?_
  try simp only [Act.put, z1, z2, z3]
  refine tkH (i := 6) (oi := ⟨some 22, .load 9 (.tmp 21), 9, "base.go:507", #[⟨5, .data⟩], none⟩) (v := .string name) (fun W h => Op1.ld_str (.tmp 21) (by kernel_rfl) (by kernel_rfl) W (h.2.2)) hS ?_
  try simp only [Act.put, z1, z2, z3]
  refine wpAnyH_ready (rs := [7]) (by kernel_rfl) (by simp) ?_
  refine AllReadyH.cons (o := ⟨some 23, .call { callee := .value (.func 46), args := #[.tmp 18, .tmp 20, .tmp 22], argTypes := #[50, 3, 9] }, 3, "base.go:507", #[⟨2, .data⟩, ⟨4, .data⟩, ⟨6, .data⟩], none⟩) rfl (fun K hK => ?_) AllReadyH.nil
  rw [if_pos (by kernel_rfl)]
  go_simp
  refine (rSlotOf_in g m d hd3 name hne _ ((unhide M2).has (unhide HM))).mono ?_
  rintro e w2 ⟨rfl, e9⟩
  rw [e9]
  clear e9 w2
  rw [unhide HFD]
  go_wp2_with fail
  refine hK.out _ _ (hS) (fun hS2 => ?_)
  clear hK K
  try simp only [Act.put, z1, z2, z3]
  refine tkP (i := 8) (oi := ⟨some 6, .assign (.tmp 23), 3, "base.go:507", #[⟨7, .data⟩, ⟨7, .chain⟩, ⟨0, .phase⟩, ⟨1, .phase⟩, ⟨2, .phase⟩, ⟨3, .phase⟩, ⟨4, .phase⟩, ⟨5, .phase⟩, ⟨6, .phase⟩, ⟨7, .phase⟩], none⟩) (v := .int .i64 ((j : Int))) hS2 ?_
  try simp only [Act.put, z1, z2, z3]
  refine wpAnyH_done (by kernel_rfl) ?_ _
  clear hS hS2
  have RV : w1.drew.heap[gx]? = some (.cells (stpA ⟨1, (d : Int), toDir, p, name, tu, text⟩) 37) := by
    rw [(unhide HD).block gx (Array.getElem?_eq_some_iff.1 (unhide RX)).1]; exact unhide RX
  have hgl : gx < w1.drew.heap.size := (Array.getElem?_eq_some_iff.1 RV).1
  have QB := hide (show ∀ (W' : World) (rows : Array Value), Bm w1.drew W' g rows → ∀ j u, (stpA ⟨1, (d : Int), toDir, p, name, tu, text⟩)[j]? = some u → W'.cell? ⟨gx, j, none⟩ = some u from fun W' rows N j u hj => by rw [cell_of_row _ _ _ _ _ _ ((N.chg.block gx hgl (unhide GN)).trans RV)]; exact hj)
  have N2 := hide (Bm.start (unhide M2).row)
  have CM := hide (unhide M2).chg
  clear RV hgl HC HD M2 BEL RX HFD GN
  generalize w1.drew = V at *
  have q0 := unhide QB _ _ (unhide N2) 0 _ rfl
  have jp : decide (0 ≤ (j : Int)) = true := by simp
  go_wp2_with fail
  go_ret
  exact ⟨rfl, (unhide N2).after (unhide CM)⟩
set_option maxHeartbeats 4000000 in
set_option maxRecDepth 100000 in
theorem files0_makeIno (h : W.heap[g]? = some (.cells (cs ++ (ds ++ Sft.btl last t1 t2 t3 t4)) 48)) (hm : IsImg cs m) (hk : IsImg ds k) (toDir p : Int) (name tu text : ByteArray) (hn : name.size ≤ maxLen) (ht : tu.size ≤ maxLen) (hx : text.size ≤ maxLen) {d : Nat} (hd3 : d < 3) (hne : name.toList.isEmpty = false) (hck : chk ⟨1, (d : Int), toDir, p, name, tu, text⟩ = 0) (hfd : m.find d name.toList = -1) (hi : Img.freeIno m k < 0) :
    Calls Tryz.prog 51 #[.pointer (some ⟨g, 0, none⟩), .agg (stpA ⟨1, (d : Int), toDir, p, name, tu, text⟩)] W fun e w' => e = .returned (.int .i64 6) ∧ Bm W w' g (cs ++ (ds ++ Sft.btl last t1 t2 t3 t4)) := by
  have u1 : decide (Img.freeIno m k < 0) = true := by simpa using hi
  have HI := hide hi
  clear hi
  have BEL := hide (show Below W.heap.size W (W.alloc (.cells (stpA ⟨1, (d : Int), toDir, p, name, tu, text⟩) 37)) from (Below.refl _ W).alloc (Nat.le_refl _) _)
  have C1 := hide (Idl.stepFault_any ⟨1, (d : Int), toDir, p, name, tu, text⟩ hn ht hx (W.alloc (.cells (stpA ⟨1, (d : Int), toDir, p, name, tu, text⟩) 37)))
  rw [hck] at C1
  have HC := hide fun W' bW => stp_box W ⟨1, (d : Int), toDir, p, name, tu, text⟩ W' bW
  have M0 := hide ((Bm.start h).call (unhide BEL))
  have GN := hide (show W.heap.size ≠ g from by have := (Array.getElem?_eq_some_iff.1 h).1; omega)
  have RX := hide (heap_alloc_last W (.cells (stpA ⟨1, (d : Int), toDir, p, name, tu, text⟩) 37))
  have HM := hide hm
  have HK := hide hk
  have HFD := hide hfd
  clear h hck hfd hm hk
  simp only [stpA] at C1
  go_enter Tryz.func51, Tryz.ntmps51
  go_wp2_with fail
  refine (unhide C1).mono ?_
  rintro e w1 ⟨rfl, b1⟩
  have M1 := hide ((unhide M0).call b1)
  have HD := hide (b1.trans ((Below.refl w1.heap.size w1).drew.mono b1.size))
  have M2 := hide ((unhide M1).call (Below.refl w1.heap.size w1).drew)
  clear b1 C1 M0 M1
  generalize W.heap.size = gx at *
  go_wp2_with fail
  refine wp_region_held_drew (S := fun W' => HasAt W' g 0 m ∧ W'.cell? ⟨gx, 1, none⟩ = some (.int .i64 (d : Int)) ∧ W'.cell? ⟨gx, 4, none⟩ = some (.string name)) (by kernel_rfl) (⟨(unhide M2).has (unhide HM), unhide HC _ (unhide HD) 1 _ rfl, unhide HC _ (unhide HD) 4 _ rfl⟩) (fun hS => ?_)
  refine tkP (i := 0) (oi := ⟨some 16, .move (.tmp 0), 44, "base.go:507", #[], none⟩) (v := .pointer (some ⟨g, 0, none⟩)) hS ?_
  try simp only [Act.put, z1, z2, z3]
  refine tkP (i := 1) (oi := ⟨some 17, .nilCheck (.tmp 16), 0, "base.go:507", #[⟨0, .data⟩], none⟩) (v := .pointer (some ⟨g, 0, none⟩)) hS ?_
  try simp only [Act.put, z1, z2, z3]
  refine tkP (i := 2) (oi := ⟨some 18, .fieldAddr 48 (.tmp 17) 0, 0, "base.go:507", #[⟨1, .data⟩], none⟩) (v := .pointer (some ⟨g, 0, none⟩)) hS ?_
  try simp only [Act.put, z1, z2, z3]
  refine tkP (i := 3) (oi := ⟨some 19, .fieldAddr 37 (.tmp 3) 1, 0, "base.go:507", #[], none⟩) (v := .pointer (some ⟨gx, 1, none⟩)) hS ?_
  try simp only [Act.put, z1, z2, z3]
  refine tkH (i := 4) (oi := ⟨some 20, .load 3 (.tmp 19), 3, "base.go:507", #[⟨3, .data⟩], none⟩) (v := .int .i64 (d : Int)) (fun W h => Op1.ld_int (.tmp 19) (by kernel_rfl) (by kernel_rfl) W (h.2.1)) hS ?_
  try simp only [Act.put, z1, z2, z3]
  refine tkP (i := 5) (oi := ⟨some 21, .fieldAddr 37 (.tmp 3) 4, 0, "base.go:507", #[], none⟩) (v := .pointer (some ⟨gx, 4, none⟩)) hS ?_
  try simp only [Act.put, z1, z2, z3]
  refine tkH (i := 6) (oi := ⟨some 22, .load 9 (.tmp 21), 9, "base.go:507", #[⟨5, .data⟩], none⟩) (v := .string name) (fun W h => Op1.ld_str (.tmp 21) (by kernel_rfl) (by kernel_rfl) W (h.2.2)) hS ?_
  try simp only [Act.put, z1, z2, z3]
  refine wpAnyH_ready (rs := [7]) (by kernel_rfl) (by simp) ?_
  refine AllReadyH.cons (o := ⟨some 23, .call { callee := .value (.func 46), args := #[.tmp 18, .tmp 20, .tmp 22], argTypes := #[50, 3, 9] }, 3, "base.go:507", #[⟨2, .data⟩, ⟨4, .data⟩, ⟨6, .data⟩], none⟩) rfl (fun K hK => ?_) AllReadyH.nil
  rw [if_pos (by kernel_rfl)]
  go_simp
  refine (rSlotOf_in g m d hd3 name hne _ ((unhide M2).has (unhide HM))).mono ?_
  rintro e w2 ⟨rfl, e9⟩
  rw [e9]
  clear e9 w2
  rw [unhide HFD]
  go_wp2_with fail
  refine hK.out _ _ (hS) (fun hS2 => ?_)
  clear hK K
  try simp only [Act.put, z1, z2, z3]
  refine tkP (i := 8) (oi := ⟨some 6, .assign (.tmp 23), 3, "base.go:507", #[⟨7, .data⟩, ⟨7, .chain⟩, ⟨0, .phase⟩, ⟨1, .phase⟩, ⟨2, .phase⟩, ⟨3, .phase⟩, ⟨4, .phase⟩, ⟨5, .phase⟩, ⟨6, .phase⟩, ⟨7, .phase⟩], none⟩) (v := .int .i64 (-1)) hS2 ?_
  try simp only [Act.put, z1, z2, z3]
  refine wpAnyH_done (by kernel_rfl) ?_ _
  clear hS hS2
  have RV : w1.drew.heap[gx]? = some (.cells (stpA ⟨1, (d : Int), toDir, p, name, tu, text⟩) 37) := by
    rw [(unhide HD).block gx (Array.getElem?_eq_some_iff.1 (unhide RX)).1]; exact unhide RX
  have hgl : gx < w1.drew.heap.size := (Array.getElem?_eq_some_iff.1 RV).1
  have QB := hide (show ∀ (W' : World) (rows : Array Value), Bm w1.drew W' g rows → ∀ j u, (stpA ⟨1, (d : Int), toDir, p, name, tu, text⟩)[j]? = some u → W'.cell? ⟨gx, j, none⟩ = some u from fun W' rows N j u hj => by rw [cell_of_row _ _ _ _ _ _ ((N.chg.block gx hgl (unhide GN)).trans RV)]; exact hj)
  have N2 := hide (Bm.start (unhide M2).row)
  have CM := hide (unhide M2).chg
  clear RV hgl HC HD M2 BEL RX HFD GN
  generalize w1.drew = V at *
  have q0 := unhide QB _ _ (unhide N2) 0 _ rfl
  have CI := hide (bIno_any g m k V ((unhide N2).has (unhide HM)) ((unhide N2).hasD (unhide HM) (unhide HK)))
  generalize Img.freeIno m k = fi at CI HI u1
  clear u1
  go_wp2_with fail
  refine (unhide CI).mono ?_
  rintro e wq ⟨rfl, e9⟩
  rw [e9]
  clear e9 wq
  have u1 : decide (fi < 0) = true := by simpa using unhide HI
  have v1 := unhide HI
  go_wp2_with fail
  go_ret
  exact ⟨rfl, (unhide N2).after (unhide CM)⟩
set_option maxHeartbeats 4000000 in
set_option maxRecDepth 100000 in
theorem files0_makeRoom (h : W.heap[g]? = some (.cells (cs ++ (ds ++ Sft.btl last t1 t2 t3 t4)) 48)) (hm : IsImg cs m) (hk : IsImg ds k) (toDir p : Int) (name tu text : ByteArray) (hn : name.size ≤ maxLen) (ht : tu.size ≤ maxLen) (hx : text.size ≤ maxLen) {d : Nat} (hd3 : d < 3) (hne : name.toList.isEmpty = false) (hck : chk ⟨1, (d : Int), toDir, p, name, tu, text⟩ = 0) (hfd : m.find d name.toList = -1) {n : Nat} (hi : Img.freeIno m k = (n : Int)) (hp : Img.noPlace m k (d : Int) name = true) :
    Calls Tryz.prog 51 #[.pointer (some ⟨g, 0, none⟩), .agg (stpA ⟨1, (d : Int), toDir, p, name, tu, text⟩)] W fun e w' => e = .returned (.int .i64 6) ∧ Bm W w' g (cs ++ (ds ++ Sft.btl last t1 t2 t3 t4)) := by
  have HI := hide hi
  have HP := hide hp
  have nn : decide ((n : Int) < 0) = false := by simp
  clear hi hp
  have BEL := hide (show Below W.heap.size W (W.alloc (.cells (stpA ⟨1, (d : Int), toDir, p, name, tu, text⟩) 37)) from (Below.refl _ W).alloc (Nat.le_refl _) _)
  have C1 := hide (Idl.stepFault_any ⟨1, (d : Int), toDir, p, name, tu, text⟩ hn ht hx (W.alloc (.cells (stpA ⟨1, (d : Int), toDir, p, name, tu, text⟩) 37)))
  rw [hck] at C1
  have HC := hide fun W' bW => stp_box W ⟨1, (d : Int), toDir, p, name, tu, text⟩ W' bW
  have M0 := hide ((Bm.start h).call (unhide BEL))
  have GN := hide (show W.heap.size ≠ g from by have := (Array.getElem?_eq_some_iff.1 h).1; omega)
  have RX := hide (heap_alloc_last W (.cells (stpA ⟨1, (d : Int), toDir, p, name, tu, text⟩) 37))
  have HM := hide hm
  have HK := hide hk
  have HFD := hide hfd
  clear h hck hfd hm hk
  simp only [stpA] at C1
  go_enter Tryz.func51, Tryz.ntmps51
  go_wp2_with fail
  refine (unhide C1).mono ?_
  rintro e w1 ⟨rfl, b1⟩
  have M1 := hide ((unhide M0).call b1)
  have HD := hide (b1.trans ((Below.refl w1.heap.size w1).drew.mono b1.size))
  have M2 := hide ((unhide M1).call (Below.refl w1.heap.size w1).drew)
  clear b1 C1 M0 M1
  generalize W.heap.size = gx at *
  go_wp2_with fail
  refine wp_region_held_drew (S := fun W' => HasAt W' g 0 m ∧ W'.cell? ⟨gx, 1, none⟩ = some (.int .i64 (d : Int)) ∧ W'.cell? ⟨gx, 4, none⟩ = some (.string name)) (by kernel_rfl) (⟨(unhide M2).has (unhide HM), unhide HC _ (unhide HD) 1 _ rfl, unhide HC _ (unhide HD) 4 _ rfl⟩) (fun hS => ?_)
  refine tkP (i := 0) (oi := ⟨some 16, .move (.tmp 0), 44, "base.go:507", #[], none⟩) (v := .pointer (some ⟨g, 0, none⟩)) hS ?_
  try simp only [Act.put, z1, z2, z3]
  refine tkP (i := 1) (oi := ⟨some 17, .nilCheck (.tmp 16), 0, "base.go:507", #[⟨0, .data⟩], none⟩) (v := .pointer (some ⟨g, 0, none⟩)) hS ?_
  try simp only [Act.put, z1, z2, z3]
  refine tkP (i := 2) (oi := ⟨some 18, .fieldAddr 48 (.tmp 17) 0, 0, "base.go:507", #[⟨1, .data⟩], none⟩) (v := .pointer (some ⟨g, 0, none⟩)) hS ?_
  try simp only [Act.put, z1, z2, z3]
  refine tkP (i := 3) (oi := ⟨some 19, .fieldAddr 37 (.tmp 3) 1, 0, "base.go:507", #[], none⟩) (v := .pointer (some ⟨gx, 1, none⟩)) hS ?_
  try simp only [Act.put, z1, z2, z3]
  refine tkH (i := 4) (oi := ⟨some 20, .load 3 (.tmp 19), 3, "base.go:507", #[⟨3, .data⟩], none⟩) (v := .int .i64 (d : Int)) (fun W h => Op1.ld_int (.tmp 19) (by kernel_rfl) (by kernel_rfl) W (h.2.1)) hS ?_
  try simp only [Act.put, z1, z2, z3]
  refine tkP (i := 5) (oi := ⟨some 21, .fieldAddr 37 (.tmp 3) 4, 0, "base.go:507", #[], none⟩) (v := .pointer (some ⟨gx, 4, none⟩)) hS ?_
  try simp only [Act.put, z1, z2, z3]
  refine tkH (i := 6) (oi := ⟨some 22, .load 9 (.tmp 21), 9, "base.go:507", #[⟨5, .data⟩], none⟩) (v := .string name) (fun W h => Op1.ld_str (.tmp 21) (by kernel_rfl) (by kernel_rfl) W (h.2.2)) hS ?_
  try simp only [Act.put, z1, z2, z3]
  refine wpAnyH_ready (rs := [7]) (by kernel_rfl) (by simp) ?_
  refine AllReadyH.cons (o := ⟨some 23, .call { callee := .value (.func 46), args := #[.tmp 18, .tmp 20, .tmp 22], argTypes := #[50, 3, 9] }, 3, "base.go:507", #[⟨2, .data⟩, ⟨4, .data⟩, ⟨6, .data⟩], none⟩) rfl (fun K hK => ?_) AllReadyH.nil
  rw [if_pos (by kernel_rfl)]
  go_simp
  refine (rSlotOf_in g m d hd3 name hne _ ((unhide M2).has (unhide HM))).mono ?_
  rintro e w2 ⟨rfl, e9⟩
  rw [e9]
  clear e9 w2
  rw [unhide HFD]
  go_wp2_with fail
  refine hK.out _ _ (hS) (fun hS2 => ?_)
  clear hK K
  try simp only [Act.put, z1, z2, z3]
  refine tkP (i := 8) (oi := ⟨some 6, .assign (.tmp 23), 3, "base.go:507", #[⟨7, .data⟩, ⟨7, .chain⟩, ⟨0, .phase⟩, ⟨1, .phase⟩, ⟨2, .phase⟩, ⟨3, .phase⟩, ⟨4, .phase⟩, ⟨5, .phase⟩, ⟨6, .phase⟩, ⟨7, .phase⟩], none⟩) (v := .int .i64 (-1)) hS2 ?_
  try simp only [Act.put, z1, z2, z3]
  refine wpAnyH_done (by kernel_rfl) ?_ _
  clear hS hS2
  have RV : w1.drew.heap[gx]? = some (.cells (stpA ⟨1, (d : Int), toDir, p, name, tu, text⟩) 37) := by
    rw [(unhide HD).block gx (Array.getElem?_eq_some_iff.1 (unhide RX)).1]; exact unhide RX
  have hgl : gx < w1.drew.heap.size := (Array.getElem?_eq_some_iff.1 RV).1
  have QB := hide (show ∀ (W' : World) (rows : Array Value), Bm w1.drew W' g rows → ∀ j u, (stpA ⟨1, (d : Int), toDir, p, name, tu, text⟩)[j]? = some u → W'.cell? ⟨gx, j, none⟩ = some u from fun W' rows N j u hj => by rw [cell_of_row _ _ _ _ _ _ ((N.chg.block gx hgl (unhide GN)).trans RV)]; exact hj)
  have N2 := hide (Bm.start (unhide M2).row)
  have CM := hide (unhide M2).chg
  clear RV hgl HC HD M2 BEL RX HFD GN
  generalize w1.drew = V at *
  have q0 := unhide QB _ _ (unhide N2) 0 _ rfl
  have q1 := unhide QB _ _ (unhide N2) 1 _ rfl
  have q4 := unhide QB _ _ (unhide N2) 4 _ rfl
  have CI := hide (bIno_any g m k V ((unhide N2).has (unhide HM)) ((unhide N2).hasD (unhide HM) (unhide HK)))
  rw [unhide HI] at CI
  have CR := hide (Sft.rRoom_any g m k d hd3 name hne V ((unhide N2).has (unhide HM)) ((unhide N2).hasD (unhide HM) (unhide HK)))
  rw [unhide HP] at CR
  go_wp2_with fail
  refine (unhide CI).mono ?_
  rintro e wq ⟨rfl, e9⟩
  rw [e9]
  clear e9 wq
  go_wp2_with fail
  refine (unhide CR).mono ?_
  rintro e w3 ⟨rfl, b3⟩
  have N3 := hide ((unhide N2).call b3)
  clear b3
  go_wp2_with fail
  go_ret
  exact ⟨rfl, (unhide N3).after (unhide CM)⟩
set_option maxHeartbeats 4000000 in
set_option maxRecDepth 100000 in
theorem files0_none (h : W.heap[g]? = some (.cells (cs ++ (ds ++ Sft.btl last t1 t2 t3 t4)) 48)) (hm : IsImg cs m) (hk : IsImg ds k) (kind toDir p : Int) (name tu text : ByteArray) (hn : name.size ≤ maxLen) (ht : tu.size ≤ maxLen) (hx : text.size ≤ maxLen) {d : Nat} (hd3 : d < 3) (hne : name.toList.isEmpty = false) (hck : chk ⟨kind, (d : Int), toDir, p, name, tu, text⟩ = 0) (hfd : m.find d name.toList = -1) (k1 : (kind == 1) = false) :
    Calls Tryz.prog 51 #[.pointer (some ⟨g, 0, none⟩), .agg (stpA ⟨kind, (d : Int), toDir, p, name, tu, text⟩)] W fun e w' => e = .returned (.int .i64 5) ∧ Bm W w' g (cs ++ (ds ++ Sft.btl last t1 t2 t3 t4)) := by
  have BEL := hide (show Below W.heap.size W (W.alloc (.cells (stpA ⟨kind, (d : Int), toDir, p, name, tu, text⟩) 37)) from (Below.refl _ W).alloc (Nat.le_refl _) _)
  have C1 := hide (Idl.stepFault_any ⟨kind, (d : Int), toDir, p, name, tu, text⟩ hn ht hx (W.alloc (.cells (stpA ⟨kind, (d : Int), toDir, p, name, tu, text⟩) 37)))
  rw [hck] at C1
  have HC := hide fun W' bW => stp_box W ⟨kind, (d : Int), toDir, p, name, tu, text⟩ W' bW
  have M0 := hide ((Bm.start h).call (unhide BEL))
  have GN := hide (show W.heap.size ≠ g from by have := (Array.getElem?_eq_some_iff.1 h).1; omega)
  have RX := hide (heap_alloc_last W (.cells (stpA ⟨kind, (d : Int), toDir, p, name, tu, text⟩) 37))
  have HM := hide hm
  have HK := hide hk
  have HFD := hide hfd
  clear h hck hfd hm hk
  simp only [stpA] at C1
  go_enter Tryz.func51, Tryz.ntmps51
  go_wp2_with fail
  refine (unhide C1).mono ?_
  rintro e w1 ⟨rfl, b1⟩
  have M1 := hide ((unhide M0).call b1)
  have HD := hide (b1.trans ((Below.refl w1.heap.size w1).drew.mono b1.size))
  have M2 := hide ((unhide M1).call (Below.refl w1.heap.size w1).drew)
  clear b1 C1 M0 M1
  generalize W.heap.size = gx at *
  go_wp2_with fail
  refine wp_region_held_drew (S := fun W' => HasAt W' g 0 m ∧ W'.cell? ⟨gx, 1, none⟩ = some (.int .i64 (d : Int)) ∧ W'.cell? ⟨gx, 4, none⟩ = some (.string name)) (by kernel_rfl) (⟨(unhide M2).has (unhide HM), unhide HC _ (unhide HD) 1 _ rfl, unhide HC _ (unhide HD) 4 _ rfl⟩) (fun hS => ?_)
  refine tkP (i := 0) (oi := ⟨some 16, .move (.tmp 0), 44, "base.go:507", #[], none⟩) (v := .pointer (some ⟨g, 0, none⟩)) hS ?_
  try simp only [Act.put, z1, z2, z3]
  refine tkP (i := 1) (oi := ⟨some 17, .nilCheck (.tmp 16), 0, "base.go:507", #[⟨0, .data⟩], none⟩) (v := .pointer (some ⟨g, 0, none⟩)) hS ?_
  try simp only [Act.put, z1, z2, z3]
  refine tkP (i := 2) (oi := ⟨some 18, .fieldAddr 48 (.tmp 17) 0, 0, "base.go:507", #[⟨1, .data⟩], none⟩) (v := .pointer (some ⟨g, 0, none⟩)) hS ?_
  try simp only [Act.put, z1, z2, z3]
  refine tkP (i := 3) (oi := ⟨some 19, .fieldAddr 37 (.tmp 3) 1, 0, "base.go:507", #[], none⟩) (v := .pointer (some ⟨gx, 1, none⟩)) hS ?_
  try simp only [Act.put, z1, z2, z3]
  refine tkH (i := 4) (oi := ⟨some 20, .load 3 (.tmp 19), 3, "base.go:507", #[⟨3, .data⟩], none⟩) (v := .int .i64 (d : Int)) (fun W h => Op1.ld_int (.tmp 19) (by kernel_rfl) (by kernel_rfl) W (h.2.1)) hS ?_
  try simp only [Act.put, z1, z2, z3]
  refine tkP (i := 5) (oi := ⟨some 21, .fieldAddr 37 (.tmp 3) 4, 0, "base.go:507", #[], none⟩) (v := .pointer (some ⟨gx, 4, none⟩)) hS ?_
  try simp only [Act.put, z1, z2, z3]
  refine tkH (i := 6) (oi := ⟨some 22, .load 9 (.tmp 21), 9, "base.go:507", #[⟨5, .data⟩], none⟩) (v := .string name) (fun W h => Op1.ld_str (.tmp 21) (by kernel_rfl) (by kernel_rfl) W (h.2.2)) hS ?_
  try simp only [Act.put, z1, z2, z3]
  refine wpAnyH_ready (rs := [7]) (by kernel_rfl) (by simp) ?_
  refine AllReadyH.cons (o := ⟨some 23, .call { callee := .value (.func 46), args := #[.tmp 18, .tmp 20, .tmp 22], argTypes := #[50, 3, 9] }, 3, "base.go:507", #[⟨2, .data⟩, ⟨4, .data⟩, ⟨6, .data⟩], none⟩) rfl (fun K hK => ?_) AllReadyH.nil
  rw [if_pos (by kernel_rfl)]
  go_simp
  refine (rSlotOf_in g m d hd3 name hne _ ((unhide M2).has (unhide HM))).mono ?_
  rintro e w2 ⟨rfl, e9⟩
  rw [e9]
  clear e9 w2
  rw [unhide HFD]
  go_wp2_with fail
  refine hK.out _ _ (hS) (fun hS2 => ?_)
  clear hK K
  try simp only [Act.put, z1, z2, z3]
  refine tkP (i := 8) (oi := ⟨some 6, .assign (.tmp 23), 3, "base.go:507", #[⟨7, .data⟩, ⟨7, .chain⟩, ⟨0, .phase⟩, ⟨1, .phase⟩, ⟨2, .phase⟩, ⟨3, .phase⟩, ⟨4, .phase⟩, ⟨5, .phase⟩, ⟨6, .phase⟩, ⟨7, .phase⟩], none⟩) (v := .int .i64 (-1)) hS2 ?_
  try simp only [Act.put, z1, z2, z3]
  refine wpAnyH_done (by kernel_rfl) ?_ _
  clear hS hS2
  have RV : w1.drew.heap[gx]? = some (.cells (stpA ⟨kind, (d : Int), toDir, p, name, tu, text⟩) 37) := by
    rw [(unhide HD).block gx (Array.getElem?_eq_some_iff.1 (unhide RX)).1]; exact unhide RX
  have hgl : gx < w1.drew.heap.size := (Array.getElem?_eq_some_iff.1 RV).1
  have QB := hide (show ∀ (W' : World) (rows : Array Value), Bm w1.drew W' g rows → ∀ j u, (stpA ⟨kind, (d : Int), toDir, p, name, tu, text⟩)[j]? = some u → W'.cell? ⟨gx, j, none⟩ = some u from fun W' rows N j u hj => by rw [cell_of_row _ _ _ _ _ _ ((N.chg.block gx hgl (unhide GN)).trans RV)]; exact hj)
  have N2 := hide (Bm.start (unhide M2).row)
  have CM := hide (unhide M2).chg
  clear RV hgl HC HD M2 BEL RX HFD GN
  generalize w1.drew = V at *
  have q0 := unhide QB _ _ (unhide N2) 0 _ rfl
  go_wp2_with fail
  go_ret
  exact ⟨rfl, (unhide N2).after (unhide CM)⟩
set_option maxHeartbeats 4000000 in
set_option maxRecDepth 100000 in
theorem files0_linkThere (h : W.heap[g]? = some (.cells (cs ++ (ds ++ Sft.btl last t1 t2 t3 t4)) 48)) (hm : IsImg cs m) (hk : IsImg ds k) (p : Int) {dd : Nat} (hdd : dd < 3) (name tu text : ByteArray) (hn : name.size ≤ maxLen) (ht : tu.size ≤ maxLen) (hx : text.size ≤ maxLen) {d : Nat} (hd3 : d < 3) (hne : name.toList.isEmpty = false) (hck : chk ⟨2, (d : Int), (dd : Int), p, name, tu, text⟩ = 0) {j n : Nat} (hfd : m.find d name.toList = (j : Int)) (hj4 : j < 4) (hn8 : n < 8) (hino : m.ino d j = (n : Int)) (htne : tu.toList.isEmpty = false) {jt : Nat} (hft : m.find dd tu.toList = (jt : Int)) :
    Calls Tryz.prog 51 #[.pointer (some ⟨g, 0, none⟩), .agg (stpA ⟨2, (d : Int), (dd : Int), p, name, tu, text⟩)] W fun e w' => e = .returned (.int .i64 4) ∧ Bm W w' g (cs ++ (ds ++ Sft.btl last t1 t2 t3 t4)) := by
  have HI := hide hino
  have jn : decide ((j : Int) < 0) = false := by simp
  have nz : (n : Int) < 8 := by omega
  clear hino
  have HFT := hide hft
  clear hft
  have BEL := hide (show Below W.heap.size W (W.alloc (.cells (stpA ⟨2, (d : Int), (dd : Int), p, name, tu, text⟩) 37)) from (Below.refl _ W).alloc (Nat.le_refl _) _)
  have C1 := hide (Idl.stepFault_any ⟨2, (d : Int), (dd : Int), p, name, tu, text⟩ hn ht hx (W.alloc (.cells (stpA ⟨2, (d : Int), (dd : Int), p, name, tu, text⟩) 37)))
  rw [hck] at C1
  have HC := hide fun W' bW => stp_box W ⟨2, (d : Int), (dd : Int), p, name, tu, text⟩ W' bW
  have M0 := hide ((Bm.start h).call (unhide BEL))
  have GN := hide (show W.heap.size ≠ g from by have := (Array.getElem?_eq_some_iff.1 h).1; omega)
  have RX := hide (heap_alloc_last W (.cells (stpA ⟨2, (d : Int), (dd : Int), p, name, tu, text⟩) 37))
  have HM := hide hm
  have HK := hide hk
  have HFD := hide hfd
  clear h hck hfd hm hk
  simp only [stpA] at C1
  go_enter Tryz.func51, Tryz.ntmps51
  go_wp2_with fail
  refine (unhide C1).mono ?_
  rintro e w1 ⟨rfl, b1⟩
  have M1 := hide ((unhide M0).call b1)
  have HD := hide (b1.trans ((Below.refl w1.heap.size w1).drew.mono b1.size))
  have M2 := hide ((unhide M1).call (Below.refl w1.heap.size w1).drew)
  clear b1 C1 M0 M1
  generalize W.heap.size = gx at *
  go_wp2_with fail
  refine wp_region_held_drew (S := fun W' => HasAt W' g 0 m ∧ W'.cell? ⟨gx, 1, none⟩ = some (.int .i64 (d : Int)) ∧ W'.cell? ⟨gx, 4, none⟩ = some (.string name)) (by kernel_rfl) (⟨(unhide M2).has (unhide HM), unhide HC _ (unhide HD) 1 _ rfl, unhide HC _ (unhide HD) 4 _ rfl⟩) (fun hS => ?_)
  refine tkP (i := 0) (oi := ⟨some 16, .move (.tmp 0), 44, "base.go:507", #[], none⟩) (v := .pointer (some ⟨g, 0, none⟩)) hS ?_
  try simp only [Act.put, z1, z2, z3]
  refine tkP (i := 1) (oi := ⟨some 17, .nilCheck (.tmp 16), 0, "base.go:507", #[⟨0, .data⟩], none⟩) (v := .pointer (some ⟨g, 0, none⟩)) hS ?_
  try simp only [Act.put, z1, z2, z3]
  refine tkP (i := 2) (oi := ⟨some 18, .fieldAddr 48 (.tmp 17) 0, 0, "base.go:507", #[⟨1, .data⟩], none⟩) (v := .pointer (some ⟨g, 0, none⟩)) hS ?_
  try simp only [Act.put, z1, z2, z3]
  refine tkP (i := 3) (oi := ⟨some 19, .fieldAddr 37 (.tmp 3) 1, 0, "base.go:507", #[], none⟩) (v := .pointer (some ⟨gx, 1, none⟩)) hS ?_
  try simp only [Act.put, z1, z2, z3]
  refine tkH (i := 4) (oi := ⟨some 20, .load 3 (.tmp 19), 3, "base.go:507", #[⟨3, .data⟩], none⟩) (v := .int .i64 (d : Int)) (fun W h => Op1.ld_int (.tmp 19) (by kernel_rfl) (by kernel_rfl) W (h.2.1)) hS ?_
  try simp only [Act.put, z1, z2, z3]
  refine tkP (i := 5) (oi := ⟨some 21, .fieldAddr 37 (.tmp 3) 4, 0, "base.go:507", #[], none⟩) (v := .pointer (some ⟨gx, 4, none⟩)) hS ?_
  try simp only [Act.put, z1, z2, z3]
  refine tkH (i := 6) (oi := ⟨some 22, .load 9 (.tmp 21), 9, "base.go:507", #[⟨5, .data⟩], none⟩) (v := .string name) (fun W h => Op1.ld_str (.tmp 21) (by kernel_rfl) (by kernel_rfl) W (h.2.2)) hS ?_
  try simp only [Act.put, z1, z2, z3]
  refine wpAnyH_ready (rs := [7]) (by kernel_rfl) (by simp) ?_
  refine AllReadyH.cons (o := ⟨some 23, .call { callee := .value (.func 46), args := #[.tmp 18, .tmp 20, .tmp 22], argTypes := #[50, 3, 9] }, 3, "base.go:507", #[⟨2, .data⟩, ⟨4, .data⟩, ⟨6, .data⟩], none⟩) rfl (fun K hK => ?_) AllReadyH.nil
  rw [if_pos (by kernel_rfl)]
  go_simp
  refine (rSlotOf_in g m d hd3 name hne _ ((unhide M2).has (unhide HM))).mono ?_
  rintro e w2 ⟨rfl, e9⟩
  rw [e9]
  clear e9 w2
  rw [unhide HFD]
  go_wp2_with fail
  refine hK.out _ _ (hS) (fun hS2 => ?_)
  clear hK K
  try simp only [Act.put, z1, z2, z3]
  refine tkP (i := 8) (oi := ⟨some 6, .assign (.tmp 23), 3, "base.go:507", #[⟨7, .data⟩, ⟨7, .chain⟩, ⟨0, .phase⟩, ⟨1, .phase⟩, ⟨2, .phase⟩, ⟨3, .phase⟩, ⟨4, .phase⟩, ⟨5, .phase⟩, ⟨6, .phase⟩, ⟨7, .phase⟩], none⟩) (v := .int .i64 ((j : Int))) hS2 ?_
  try simp only [Act.put, z1, z2, z3]
  refine wpAnyH_done (by kernel_rfl) ?_ _
  clear hS hS2
  have RV : w1.drew.heap[gx]? = some (.cells (stpA ⟨2, (d : Int), (dd : Int), p, name, tu, text⟩) 37) := by
    rw [(unhide HD).block gx (Array.getElem?_eq_some_iff.1 (unhide RX)).1]; exact unhide RX
  have hgl : gx < w1.drew.heap.size := (Array.getElem?_eq_some_iff.1 RV).1
  have QB := hide (show ∀ (W' : World) (rows : Array Value), Bm w1.drew W' g rows → ∀ j u, (stpA ⟨2, (d : Int), (dd : Int), p, name, tu, text⟩)[j]? = some u → W'.cell? ⟨gx, j, none⟩ = some u from fun W' rows N j u hj => by rw [cell_of_row _ _ _ _ _ _ ((N.chg.block gx hgl (unhide GN)).trans RV)]; exact hj)
  have N2 := hide (Bm.start (unhide M2).row)
  have CM := hide (unhide M2).chg
  clear RV hgl HC HD M2 BEL RX HFD GN
  generalize w1.drew = V at *
  have q0 := unhide QB _ _ (unhide N2) 0 _ rfl
  have N3 := hide ((unhide N2).call (Below.refl _ _).drew)
  go_wp2_with fail
  refine wp_region_held_drew (S := fun W' => HasAt W' g 0 m ∧ W'.cell? ⟨gx, 1, none⟩ = some (.int .i64 (d : Int))) (by kernel_rfl) (⟨(unhide N3).has (unhide HM), unhide QB _ _ (unhide N3) 1 _ rfl⟩) (fun hS => ?_)
  refine tkP (i := 0) (oi := ⟨some 83, .move (.tmp 0), 44, "base.go:526", #[], none⟩) (v := .pointer (some ⟨g, 0, none⟩)) hS ?_
  try simp only [Act.put, z1, z2, z3]
  refine tkP (i := 1) (oi := ⟨some 84, .fieldAddr 37 (.tmp 3) 1, 0, "base.go:526", #[], none⟩) (v := .pointer (some ⟨gx, 1, none⟩)) hS ?_
  try simp only [Act.put, z1, z2, z3]
  refine tkH (i := 2) (oi := ⟨some 85, .load 3 (.tmp 84), 3, "base.go:526", #[⟨1, .data⟩], none⟩) (v := .int .i64 (d : Int)) (fun W h => Op1.ld_int (.tmp 84) (by kernel_rfl) (by kernel_rfl) W (h.2)) hS ?_
  try simp only [Act.put, z1, z2, z3]
  refine tkP (i := 3) (oi := ⟨some 86, .move (.tmp 6), 3, "base.go:526", #[], none⟩) (v := .int .i64 (j : Int)) hS ?_
  try simp only [Act.put, z1, z2, z3]
  refine tkP (i := 4) (oi := ⟨some 87, .nilCheck (.tmp 83), 0, "base.go:526", #[⟨0, .data⟩], none⟩) (v := .pointer (some ⟨g, 0, none⟩)) hS ?_
  try simp only [Act.put, z1, z2, z3]
  refine tkP (i := 5) (oi := ⟨some 88, .fieldAddr 48 (.tmp 87) 0, 0, "base.go:526", #[⟨4, .data⟩], none⟩) (v := .pointer (some ⟨g, 0, none⟩)) hS ?_
  try simp only [Act.put, z1, z2, z3]
  refine tkP (i := 6) (oi := ⟨some 89, .fieldAddr 34 (.tmp 88) 1, 0, "base.go:526", #[⟨5, .data⟩], none⟩) (v := .pointer (some ⟨g, 40, none⟩)) hS ?_
  try simp only [Act.put, z1, z2, z3]
  refine tkH (i := 7) (oi := ⟨some 90, .indexAddr 29 (.tmp 89) (.tmp 85), 0, "base.go:526", #[⟨6, .data⟩, ⟨2, .data⟩], none⟩) (v := .pointer (some ⟨g, 40 + d * 12, none⟩)) (fun W h => Op1.ix_dir (.tmp 89) (.tmp 85) (by kernel_rfl) (by kernel_rfl) (by kernel_rfl) (hd3) W) hS ?_
  try simp only [Act.put, z1, z2, z3]
  refine tkH (i := 8) (oi := ⟨some 91, .indexAddr 28 (.tmp 90) (.tmp 86), 0, "base.go:526", #[⟨7, .data⟩, ⟨3, .data⟩], none⟩) (v := .pointer (some ⟨g, 40 + d * 12 + j * 3, none⟩)) (fun W h => Op1.ix_slot (.tmp 90) (.tmp 86) (by kernel_rfl) (by kernel_rfl) (by kernel_rfl) (hj4) W) hS ?_
  try simp only [Act.put, z1, z2, z3]
  refine tkP (i := 9) (oi := ⟨some 92, .fieldAddr 27 (.tmp 91) 1, 0, "base.go:526", #[⟨8, .data⟩], none⟩) (v := .pointer (some ⟨g, 40 + d * 12 + j * 3 + 1, none⟩)) hS ?_
  try simp only [Act.put, z1, z2, z3]
  refine tkH (i := 10) (oi := ⟨some 93, .load 3 (.tmp 92), 3, "base.go:526", #[⟨9, .data⟩], none⟩) (v := .int .i64 (n : Int)) (fun W h => Op1.ld_int (.tmp 92) (by kernel_rfl) (by kernel_rfl) W (by have := h.1.ino d j hd3 hj4; rw [unhide HI, Nat.zero_add] at this; exact this)) hS ?_
  try simp only [Act.put, z1, z2, z3]
  refine tkP (i := 11) (oi := ⟨some 8, .assign (.tmp 93), 3, "base.go:526", #[⟨10, .data⟩, ⟨0, .phase⟩, ⟨1, .phase⟩, ⟨2, .phase⟩, ⟨3, .phase⟩, ⟨4, .phase⟩, ⟨5, .phase⟩, ⟨6, .phase⟩, ⟨7, .phase⟩, ⟨8, .phase⟩, ⟨9, .phase⟩, ⟨10, .phase⟩], none⟩) (v := .int .i64 (n : Int)) hS ?_
  try simp only [Act.put, z1, z2, z3]
  refine wpAnyH_done (by kernel_rfl) ?_ _
  clear hS q0 N2 jn
  generalize V.drew = V1 at *
  have q0 := unhide QB _ _ (unhide N3) 0 _ rfl
  have N4 := hide ((unhide N3).call (Below.refl _ _).drew)
  go_wp2_with fail
  refine wp_region_held_drew (S := fun W' => HasAt W' g 0 m ∧ W'.cell? ⟨gx, 2, none⟩ = some (.int .i64 (dd : Int)) ∧ W'.cell? ⟨gx, 5, none⟩ = some (.string tu)) (by kernel_rfl) (⟨(unhide N4).has (unhide HM), unhide QB _ _ (unhide N4) 2 _ rfl, unhide QB _ _ (unhide N4) 5 _ rfl⟩) (fun hS => ?_)
  refine tkP (i := 0) (oi := ⟨some 108, .move (.tmp 0), 44, "base.go:529", #[], none⟩) (v := .pointer (some ⟨g, 0, none⟩)) hS ?_
  try simp only [Act.put, z1, z2, z3]
  refine tkP (i := 1) (oi := ⟨some 109, .nilCheck (.tmp 108), 0, "base.go:529", #[⟨0, .data⟩], none⟩) (v := .pointer (some ⟨g, 0, none⟩)) hS ?_
  try simp only [Act.put, z1, z2, z3]
  refine tkP (i := 2) (oi := ⟨some 110, .fieldAddr 48 (.tmp 109) 0, 0, "base.go:529", #[⟨1, .data⟩], none⟩) (v := .pointer (some ⟨g, 0, none⟩)) hS ?_
  try simp only [Act.put, z1, z2, z3]
  refine tkP (i := 3) (oi := ⟨some 111, .fieldAddr 37 (.tmp 3) 2, 0, "base.go:529", #[], none⟩) (v := .pointer (some ⟨gx, 2, none⟩)) hS ?_
  try simp only [Act.put, z1, z2, z3]
  refine tkH (i := 4) (oi := ⟨some 112, .load 3 (.tmp 111), 3, "base.go:529", #[⟨3, .data⟩], none⟩) (v := .int .i64 (dd : Int)) (fun W h => Op1.ld_int (.tmp 111) (by kernel_rfl) (by kernel_rfl) W (h.2.1)) hS ?_
  try simp only [Act.put, z1, z2, z3]
  refine tkP (i := 5) (oi := ⟨some 113, .fieldAddr 37 (.tmp 3) 5, 0, "base.go:529", #[], none⟩) (v := .pointer (some ⟨gx, 5, none⟩)) hS ?_
  try simp only [Act.put, z1, z2, z3]
  refine tkH (i := 6) (oi := ⟨some 114, .load 9 (.tmp 113), 9, "base.go:529", #[⟨5, .data⟩], none⟩) (v := .string tu) (fun W h => Op1.ld_str (.tmp 113) (by kernel_rfl) (by kernel_rfl) W (h.2.2)) hS ?_
  try simp only [Act.put, z1, z2, z3]
  refine wpAnyH_ready (rs := [7]) (by kernel_rfl) (by simp) ?_
  refine AllReadyH.cons (o := ⟨some 115, .call { callee := .value (.func 46), args := #[.tmp 110, .tmp 112, .tmp 114], argTypes := #[50, 3, 9] }, 3, "base.go:529", #[⟨2, .data⟩, ⟨4, .data⟩, ⟨6, .data⟩], none⟩) rfl (fun K hK => ?_) AllReadyH.nil
  rw [if_pos (by kernel_rfl)]
  go_simp
  refine (rSlotOf_in g m dd hdd tu htne _ ((unhide N4).has (unhide HM))).mono ?_
  rintro e w2 ⟨rfl, e9⟩
  rw [e9]
  clear e9 w2
  rw [unhide HFT]
  go_wp2_with fail
  refine hK.out _ _ (hS) (fun hS2 => ?_)
  clear hK K
  try simp only [Act.put, z1, z2, z3]
  refine tkH (i := 8) (oi := ⟨some 116, .binOp .geq 3 (.tmp 115) (.const (.int .i64 0)) 3, 4, "base.go:529", #[⟨7, .data⟩], none⟩) (v := .bool true) (fun W h => Op1.geq0t (j := jt) (.tmp 115) (by kernel_rfl) (by kernel_rfl) (by kernel_rfl) W) hS2 ?_
  try simp only [Act.put, z1, z2, z3]
  refine wpAnyH_done (by kernel_rfl) ?_ _
  clear hS hS2 q0 nz
  generalize V1.drew = V2 at *
  go_wp2_with fail
  go_ret
  exact ⟨rfl, (unhide N4).after (unhide CM)⟩
set_option maxHeartbeats 4000000 in
set_option maxRecDepth 100000 in
theorem files0_linkRoom (h : W.heap[g]? = some (.cells (cs ++ (ds ++ Sft.btl last t1 t2 t3 t4)) 48)) (hm : IsImg cs m) (hk : IsImg ds k) (p : Int) {dd : Nat} (hdd : dd < 3) (name tu text : ByteArray) (hn : name.size ≤ maxLen) (ht : tu.size ≤ maxLen) (hx : text.size ≤ maxLen) {d : Nat} (hd3 : d < 3) (hne : name.toList.isEmpty = false) (hck : chk ⟨2, (d : Int), (dd : Int), p, name, tu, text⟩ = 0) {j n : Nat} (hfd : m.find d name.toList = (j : Int)) (hj4 : j < 4) (hn8 : n < 8) (hino : m.ino d j = (n : Int)) (htne : tu.toList.isEmpty = false) (hft : m.find dd tu.toList = -1) (hp : Img.noPlace m k (dd : Int) tu = true) :
    Calls Tryz.prog 51 #[.pointer (some ⟨g, 0, none⟩), .agg (stpA ⟨2, (d : Int), (dd : Int), p, name, tu, text⟩)] W fun e w' => e = .returned (.int .i64 6) ∧ Bm W w' g (cs ++ (ds ++ Sft.btl last t1 t2 t3 t4)) := by
  have HI := hide hino
  have jn : decide ((j : Int) < 0) = false := by simp
  have nz : (n : Int) < 8 := by omega
  clear hino
  have HFT := hide hft
  have HP := hide hp
  clear hft hp
  have BEL := hide (show Below W.heap.size W (W.alloc (.cells (stpA ⟨2, (d : Int), (dd : Int), p, name, tu, text⟩) 37)) from (Below.refl _ W).alloc (Nat.le_refl _) _)
  have C1 := hide (Idl.stepFault_any ⟨2, (d : Int), (dd : Int), p, name, tu, text⟩ hn ht hx (W.alloc (.cells (stpA ⟨2, (d : Int), (dd : Int), p, name, tu, text⟩) 37)))
  rw [hck] at C1
  have HC := hide fun W' bW => stp_box W ⟨2, (d : Int), (dd : Int), p, name, tu, text⟩ W' bW
  have M0 := hide ((Bm.start h).call (unhide BEL))
  have GN := hide (show W.heap.size ≠ g from by have := (Array.getElem?_eq_some_iff.1 h).1; omega)
  have RX := hide (heap_alloc_last W (.cells (stpA ⟨2, (d : Int), (dd : Int), p, name, tu, text⟩) 37))
  have HM := hide hm
  have HK := hide hk
  have HFD := hide hfd
  clear h hck hfd hm hk
  simp only [stpA] at C1
  go_enter Tryz.func51, Tryz.ntmps51
  go_wp2_with fail
  refine (unhide C1).mono ?_
  rintro e w1 ⟨rfl, b1⟩
  have M1 := hide ((unhide M0).call b1)
  have HD := hide (b1.trans ((Below.refl w1.heap.size w1).drew.mono b1.size))
  have M2 := hide ((unhide M1).call (Below.refl w1.heap.size w1).drew)
  clear b1 C1 M0 M1
  generalize W.heap.size = gx at *
  go_wp2_with fail
  refine wp_region_held_drew (S := fun W' => HasAt W' g 0 m ∧ W'.cell? ⟨gx, 1, none⟩ = some (.int .i64 (d : Int)) ∧ W'.cell? ⟨gx, 4, none⟩ = some (.string name)) (by kernel_rfl) (⟨(unhide M2).has (unhide HM), unhide HC _ (unhide HD) 1 _ rfl, unhide HC _ (unhide HD) 4 _ rfl⟩) (fun hS => ?_)
  refine tkP (i := 0) (oi := ⟨some 16, .move (.tmp 0), 44, "base.go:507", #[], none⟩) (v := .pointer (some ⟨g, 0, none⟩)) hS ?_
  try simp only [Act.put, z1, z2, z3]
  refine tkP (i := 1) (oi := ⟨some 17, .nilCheck (.tmp 16), 0, "base.go:507", #[⟨0, .data⟩], none⟩) (v := .pointer (some ⟨g, 0, none⟩)) hS ?_
  try simp only [Act.put, z1, z2, z3]
  refine tkP (i := 2) (oi := ⟨some 18, .fieldAddr 48 (.tmp 17) 0, 0, "base.go:507", #[⟨1, .data⟩], none⟩) (v := .pointer (some ⟨g, 0, none⟩)) hS ?_
  try simp only [Act.put, z1, z2, z3]
  refine tkP (i := 3) (oi := ⟨some 19, .fieldAddr 37 (.tmp 3) 1, 0, "base.go:507", #[], none⟩) (v := .pointer (some ⟨gx, 1, none⟩)) hS ?_
  try simp only [Act.put, z1, z2, z3]
  refine tkH (i := 4) (oi := ⟨some 20, .load 3 (.tmp 19), 3, "base.go:507", #[⟨3, .data⟩], none⟩) (v := .int .i64 (d : Int)) (fun W h => Op1.ld_int (.tmp 19) (by kernel_rfl) (by kernel_rfl) W (h.2.1)) hS ?_
  try simp only [Act.put, z1, z2, z3]
  refine tkP (i := 5) (oi := ⟨some 21, .fieldAddr 37 (.tmp 3) 4, 0, "base.go:507", #[], none⟩) (v := .pointer (some ⟨gx, 4, none⟩)) hS ?_
  try simp only [Act.put, z1, z2, z3]
  refine tkH (i := 6) (oi := ⟨some 22, .load 9 (.tmp 21), 9, "base.go:507", #[⟨5, .data⟩], none⟩) (v := .string name) (fun W h => Op1.ld_str (.tmp 21) (by kernel_rfl) (by kernel_rfl) W (h.2.2)) hS ?_
  try simp only [Act.put, z1, z2, z3]
  refine wpAnyH_ready (rs := [7]) (by kernel_rfl) (by simp) ?_
  refine AllReadyH.cons (o := ⟨some 23, .call { callee := .value (.func 46), args := #[.tmp 18, .tmp 20, .tmp 22], argTypes := #[50, 3, 9] }, 3, "base.go:507", #[⟨2, .data⟩, ⟨4, .data⟩, ⟨6, .data⟩], none⟩) rfl (fun K hK => ?_) AllReadyH.nil
  rw [if_pos (by kernel_rfl)]
  go_simp
  refine (rSlotOf_in g m d hd3 name hne _ ((unhide M2).has (unhide HM))).mono ?_
  rintro e w2 ⟨rfl, e9⟩
  rw [e9]
  clear e9 w2
  rw [unhide HFD]
  go_wp2_with fail
  refine hK.out _ _ (hS) (fun hS2 => ?_)
  clear hK K
  try simp only [Act.put, z1, z2, z3]
  refine tkP (i := 8) (oi := ⟨some 6, .assign (.tmp 23), 3, "base.go:507", #[⟨7, .data⟩, ⟨7, .chain⟩, ⟨0, .phase⟩, ⟨1, .phase⟩, ⟨2, .phase⟩, ⟨3, .phase⟩, ⟨4, .phase⟩, ⟨5, .phase⟩, ⟨6, .phase⟩, ⟨7, .phase⟩], none⟩) (v := .int .i64 ((j : Int))) hS2 ?_
  try simp only [Act.put, z1, z2, z3]
  refine wpAnyH_done (by kernel_rfl) ?_ _
  clear hS hS2
  have RV : w1.drew.heap[gx]? = some (.cells (stpA ⟨2, (d : Int), (dd : Int), p, name, tu, text⟩) 37) := by
    rw [(unhide HD).block gx (Array.getElem?_eq_some_iff.1 (unhide RX)).1]; exact unhide RX
  have hgl : gx < w1.drew.heap.size := (Array.getElem?_eq_some_iff.1 RV).1
  have QB := hide (show ∀ (W' : World) (rows : Array Value), Bm w1.drew W' g rows → ∀ j u, (stpA ⟨2, (d : Int), (dd : Int), p, name, tu, text⟩)[j]? = some u → W'.cell? ⟨gx, j, none⟩ = some u from fun W' rows N j u hj => by rw [cell_of_row _ _ _ _ _ _ ((N.chg.block gx hgl (unhide GN)).trans RV)]; exact hj)
  have N2 := hide (Bm.start (unhide M2).row)
  have CM := hide (unhide M2).chg
  clear RV hgl HC HD M2 BEL RX HFD GN
  generalize w1.drew = V at *
  have q0 := unhide QB _ _ (unhide N2) 0 _ rfl
  have N3 := hide ((unhide N2).call (Below.refl _ _).drew)
  go_wp2_with fail
  refine wp_region_held_drew (S := fun W' => HasAt W' g 0 m ∧ W'.cell? ⟨gx, 1, none⟩ = some (.int .i64 (d : Int))) (by kernel_rfl) (⟨(unhide N3).has (unhide HM), unhide QB _ _ (unhide N3) 1 _ rfl⟩) (fun hS => ?_)
  refine tkP (i := 0) (oi := ⟨some 83, .move (.tmp 0), 44, "base.go:526", #[], none⟩) (v := .pointer (some ⟨g, 0, none⟩)) hS ?_
  try simp only [Act.put, z1, z2, z3]
  refine tkP (i := 1) (oi := ⟨some 84, .fieldAddr 37 (.tmp 3) 1, 0, "base.go:526", #[], none⟩) (v := .pointer (some ⟨gx, 1, none⟩)) hS ?_
  try simp only [Act.put, z1, z2, z3]
  refine tkH (i := 2) (oi := ⟨some 85, .load 3 (.tmp 84), 3, "base.go:526", #[⟨1, .data⟩], none⟩) (v := .int .i64 (d : Int)) (fun W h => Op1.ld_int (.tmp 84) (by kernel_rfl) (by kernel_rfl) W (h.2)) hS ?_
  try simp only [Act.put, z1, z2, z3]
  refine tkP (i := 3) (oi := ⟨some 86, .move (.tmp 6), 3, "base.go:526", #[], none⟩) (v := .int .i64 (j : Int)) hS ?_
  try simp only [Act.put, z1, z2, z3]
  refine tkP (i := 4) (oi := ⟨some 87, .nilCheck (.tmp 83), 0, "base.go:526", #[⟨0, .data⟩], none⟩) (v := .pointer (some ⟨g, 0, none⟩)) hS ?_
  try simp only [Act.put, z1, z2, z3]
  refine tkP (i := 5) (oi := ⟨some 88, .fieldAddr 48 (.tmp 87) 0, 0, "base.go:526", #[⟨4, .data⟩], none⟩) (v := .pointer (some ⟨g, 0, none⟩)) hS ?_
  try simp only [Act.put, z1, z2, z3]
  refine tkP (i := 6) (oi := ⟨some 89, .fieldAddr 34 (.tmp 88) 1, 0, "base.go:526", #[⟨5, .data⟩], none⟩) (v := .pointer (some ⟨g, 40, none⟩)) hS ?_
  try simp only [Act.put, z1, z2, z3]
  refine tkH (i := 7) (oi := ⟨some 90, .indexAddr 29 (.tmp 89) (.tmp 85), 0, "base.go:526", #[⟨6, .data⟩, ⟨2, .data⟩], none⟩) (v := .pointer (some ⟨g, 40 + d * 12, none⟩)) (fun W h => Op1.ix_dir (.tmp 89) (.tmp 85) (by kernel_rfl) (by kernel_rfl) (by kernel_rfl) (hd3) W) hS ?_
  try simp only [Act.put, z1, z2, z3]
  refine tkH (i := 8) (oi := ⟨some 91, .indexAddr 28 (.tmp 90) (.tmp 86), 0, "base.go:526", #[⟨7, .data⟩, ⟨3, .data⟩], none⟩) (v := .pointer (some ⟨g, 40 + d * 12 + j * 3, none⟩)) (fun W h => Op1.ix_slot (.tmp 90) (.tmp 86) (by kernel_rfl) (by kernel_rfl) (by kernel_rfl) (hj4) W) hS ?_
  try simp only [Act.put, z1, z2, z3]
  refine tkP (i := 9) (oi := ⟨some 92, .fieldAddr 27 (.tmp 91) 1, 0, "base.go:526", #[⟨8, .data⟩], none⟩) (v := .pointer (some ⟨g, 40 + d * 12 + j * 3 + 1, none⟩)) hS ?_
  try simp only [Act.put, z1, z2, z3]
  refine tkH (i := 10) (oi := ⟨some 93, .load 3 (.tmp 92), 3, "base.go:526", #[⟨9, .data⟩], none⟩) (v := .int .i64 (n : Int)) (fun W h => Op1.ld_int (.tmp 92) (by kernel_rfl) (by kernel_rfl) W (by have := h.1.ino d j hd3 hj4; rw [unhide HI, Nat.zero_add] at this; exact this)) hS ?_
  try simp only [Act.put, z1, z2, z3]
  refine tkP (i := 11) (oi := ⟨some 8, .assign (.tmp 93), 3, "base.go:526", #[⟨10, .data⟩, ⟨0, .phase⟩, ⟨1, .phase⟩, ⟨2, .phase⟩, ⟨3, .phase⟩, ⟨4, .phase⟩, ⟨5, .phase⟩, ⟨6, .phase⟩, ⟨7, .phase⟩, ⟨8, .phase⟩, ⟨9, .phase⟩, ⟨10, .phase⟩], none⟩) (v := .int .i64 (n : Int)) hS ?_
  try simp only [Act.put, z1, z2, z3]
  refine wpAnyH_done (by kernel_rfl) ?_ _
  clear hS q0 N2 jn
  generalize V.drew = V1 at *
  have q0 := unhide QB _ _ (unhide N3) 0 _ rfl
  have N4 := hide ((unhide N3).call (Below.refl _ _).drew)
  go_wp2_with fail
  refine wp_region_held_drew (S := fun W' => HasAt W' g 0 m ∧ W'.cell? ⟨gx, 2, none⟩ = some (.int .i64 (dd : Int)) ∧ W'.cell? ⟨gx, 5, none⟩ = some (.string tu)) (by kernel_rfl) (⟨(unhide N4).has (unhide HM), unhide QB _ _ (unhide N4) 2 _ rfl, unhide QB _ _ (unhide N4) 5 _ rfl⟩) (fun hS => ?_)
  refine tkP (i := 0) (oi := ⟨some 108, .move (.tmp 0), 44, "base.go:529", #[], none⟩) (v := .pointer (some ⟨g, 0, none⟩)) hS ?_
  try simp only [Act.put, z1, z2, z3]
  refine tkP (i := 1) (oi := ⟨some 109, .nilCheck (.tmp 108), 0, "base.go:529", #[⟨0, .data⟩], none⟩) (v := .pointer (some ⟨g, 0, none⟩)) hS ?_
  try simp only [Act.put, z1, z2, z3]
  refine tkP (i := 2) (oi := ⟨some 110, .fieldAddr 48 (.tmp 109) 0, 0, "base.go:529", #[⟨1, .data⟩], none⟩) (v := .pointer (some ⟨g, 0, none⟩)) hS ?_
  try simp only [Act.put, z1, z2, z3]
  refine tkP (i := 3) (oi := ⟨some 111, .fieldAddr 37 (.tmp 3) 2, 0, "base.go:529", #[], none⟩) (v := .pointer (some ⟨gx, 2, none⟩)) hS ?_
  try simp only [Act.put, z1, z2, z3]
  refine tkH (i := 4) (oi := ⟨some 112, .load 3 (.tmp 111), 3, "base.go:529", #[⟨3, .data⟩], none⟩) (v := .int .i64 (dd : Int)) (fun W h => Op1.ld_int (.tmp 111) (by kernel_rfl) (by kernel_rfl) W (h.2.1)) hS ?_
  try simp only [Act.put, z1, z2, z3]
  refine tkP (i := 5) (oi := ⟨some 113, .fieldAddr 37 (.tmp 3) 5, 0, "base.go:529", #[], none⟩) (v := .pointer (some ⟨gx, 5, none⟩)) hS ?_
  try simp only [Act.put, z1, z2, z3]
  refine tkH (i := 6) (oi := ⟨some 114, .load 9 (.tmp 113), 9, "base.go:529", #[⟨5, .data⟩], none⟩) (v := .string tu) (fun W h => Op1.ld_str (.tmp 113) (by kernel_rfl) (by kernel_rfl) W (h.2.2)) hS ?_
  try simp only [Act.put, z1, z2, z3]
  refine wpAnyH_ready (rs := [7]) (by kernel_rfl) (by simp) ?_
  refine AllReadyH.cons (o := ⟨some 115, .call { callee := .value (.func 46), args := #[.tmp 110, .tmp 112, .tmp 114], argTypes := #[50, 3, 9] }, 3, "base.go:529", #[⟨2, .data⟩, ⟨4, .data⟩, ⟨6, .data⟩], none⟩) rfl (fun K hK => ?_) AllReadyH.nil
  rw [if_pos (by kernel_rfl)]
  go_simp
  refine (rSlotOf_in g m dd hdd tu htne _ ((unhide N4).has (unhide HM))).mono ?_
  rintro e w2 ⟨rfl, e9⟩
  rw [e9]
  clear e9 w2
  rw [unhide HFT]
  go_wp2_with fail
  refine hK.out _ _ (hS) (fun hS2 => ?_)
  clear hK K
  try simp only [Act.put, z1, z2, z3]
  refine tkP (i := 8) (oi := ⟨some 116, .binOp .geq 3 (.tmp 115) (.const (.int .i64 0)) 3, 4, "base.go:529", #[⟨7, .data⟩], none⟩) (v := .bool false) hS2 ?_
  try simp only [Act.put, z1, z2, z3]
  refine wpAnyH_done (by kernel_rfl) ?_ _
  clear hS hS2 q0 nz
  generalize V1.drew = V2 at *
  have CR := hide (Sft.rRoom_any g m k dd hdd tu htne V2 ((unhide N4).has (unhide HM)) ((unhide N4).hasD (unhide HM) (unhide HK)))
  rw [unhide HP] at CR
  have q2 := unhide QB _ _ (unhide N4) 2 _ rfl
  have q5 := unhide QB _ _ (unhide N4) 5 _ rfl
  go_wp2_with fail
  refine (unhide CR).mono ?_
  rintro e w3 ⟨rfl, b3⟩
  have N5 := hide ((unhide N4).call b3)
  clear b3
  go_wp2_with fail
  go_ret
  exact ⟨rfl, (unhide N5).after (unhide CM)⟩
set_option maxHeartbeats 4000000 in
set_option maxRecDepth 100000 in
theorem files0_renameThere (h : W.heap[g]? = some (.cells (cs ++ (ds ++ Sft.btl last t1 t2 t3 t4)) 48)) (hm : IsImg cs m) (hk : IsImg ds k) (p : Int) {dd : Nat} (hdd : dd < 3) (name tu text : ByteArray) (hn : name.size ≤ maxLen) (ht : tu.size ≤ maxLen) (hx : text.size ≤ maxLen) {d : Nat} (hd3 : d < 3) (hne : name.toList.isEmpty = false) (hck : chk ⟨4, (d : Int), (dd : Int), p, name, tu, text⟩ = 0) {j n : Nat} (hfd : m.find d name.toList = (j : Int)) (hj4 : j < 4) (hn8 : n < 8) (hino : m.ino d j = (n : Int)) (htne : tu.toList.isEmpty = false) {jt : Nat} (hft : m.find dd tu.toList = (jt : Int)) :
    Calls Tryz.prog 51 #[.pointer (some ⟨g, 0, none⟩), .agg (stpA ⟨4, (d : Int), (dd : Int), p, name, tu, text⟩)] W fun e w' => e = .returned (.int .i64 4) ∧ Bm W w' g (cs ++ (ds ++ Sft.btl last t1 t2 t3 t4)) := by
  have HI := hide hino
  have jn : decide ((j : Int) < 0) = false := by simp
  have nz : (n : Int) < 8 := by omega
  clear hino
  have HFT := hide hft
  clear hft
  have BEL := hide (show Below W.heap.size W (W.alloc (.cells (stpA ⟨4, (d : Int), (dd : Int), p, name, tu, text⟩) 37)) from (Below.refl _ W).alloc (Nat.le_refl _) _)
  have C1 := hide (Idl.stepFault_any ⟨4, (d : Int), (dd : Int), p, name, tu, text⟩ hn ht hx (W.alloc (.cells (stpA ⟨4, (d : Int), (dd : Int), p, name, tu, text⟩) 37)))
  rw [hck] at C1
  have HC := hide fun W' bW => stp_box W ⟨4, (d : Int), (dd : Int), p, name, tu, text⟩ W' bW
  have M0 := hide ((Bm.start h).call (unhide BEL))
  have GN := hide (show W.heap.size ≠ g from by have := (Array.getElem?_eq_some_iff.1 h).1; omega)
  have RX := hide (heap_alloc_last W (.cells (stpA ⟨4, (d : Int), (dd : Int), p, name, tu, text⟩) 37))
  have HM := hide hm
  have HK := hide hk
  have HFD := hide hfd
  clear h hck hfd hm hk
  simp only [stpA] at C1
  go_enter Tryz.func51, Tryz.ntmps51
  go_wp2_with fail
  refine (unhide C1).mono ?_
  rintro e w1 ⟨rfl, b1⟩
  have M1 := hide ((unhide M0).call b1)
  have HD := hide (b1.trans ((Below.refl w1.heap.size w1).drew.mono b1.size))
  have M2 := hide ((unhide M1).call (Below.refl w1.heap.size w1).drew)
  clear b1 C1 M0 M1
  generalize W.heap.size = gx at *
  go_wp2_with fail
  refine wp_region_held_drew (S := fun W' => HasAt W' g 0 m ∧ W'.cell? ⟨gx, 1, none⟩ = some (.int .i64 (d : Int)) ∧ W'.cell? ⟨gx, 4, none⟩ = some (.string name)) (by kernel_rfl) (⟨(unhide M2).has (unhide HM), unhide HC _ (unhide HD) 1 _ rfl, unhide HC _ (unhide HD) 4 _ rfl⟩) (fun hS => ?_)
  refine tkP (i := 0) (oi := ⟨some 16, .move (.tmp 0), 44, "base.go:507", #[], none⟩) (v := .pointer (some ⟨g, 0, none⟩)) hS ?_
  try simp only [Act.put, z1, z2, z3]
  refine tkP (i := 1) (oi := ⟨some 17, .nilCheck (.tmp 16), 0, "base.go:507", #[⟨0, .data⟩], none⟩) (v := .pointer (some ⟨g, 0, none⟩)) hS ?_
  try simp only [Act.put, z1, z2, z3]
  refine tkP (i := 2) (oi := ⟨some 18, .fieldAddr 48 (.tmp 17) 0, 0, "base.go:507", #[⟨1, .data⟩], none⟩) (v := .pointer (some ⟨g, 0, none⟩)) hS ?_
  try simp only [Act.put, z1, z2, z3]
  refine tkP (i := 3) (oi := ⟨some 19, .fieldAddr 37 (.tmp 3) 1, 0, "base.go:507", #[], none⟩) (v := .pointer (some ⟨gx, 1, none⟩)) hS ?_
  try simp only [Act.put, z1, z2, z3]
  refine tkH (i := 4) (oi := ⟨some 20, .load 3 (.tmp 19), 3, "base.go:507", #[⟨3, .data⟩], none⟩) (v := .int .i64 (d : Int)) (fun W h => Op1.ld_int (.tmp 19) (by kernel_rfl) (by kernel_rfl) W (h.2.1)) hS ?_
  try simp only [Act.put, z1, z2, z3]
  refine tkP (i := 5) (oi := ⟨some 21, .fieldAddr 37 (.tmp 3) 4, 0, "base.go:507", #[], none⟩) (v := .pointer (some ⟨gx, 4, none⟩)) hS ?_
  try simp only [Act.put, z1, z2, z3]
  refine tkH (i := 6) (oi := ⟨some 22, .load 9 (.tmp 21), 9, "base.go:507", #[⟨5, .data⟩], none⟩) (v := .string name) (fun W h => Op1.ld_str (.tmp 21) (by kernel_rfl) (by kernel_rfl) W (h.2.2)) hS ?_
  try simp only [Act.put, z1, z2, z3]
  refine wpAnyH_ready (rs := [7]) (by kernel_rfl) (by simp) ?_
  refine AllReadyH.cons (o := ⟨some 23, .call { callee := .value (.func 46), args := #[.tmp 18, .tmp 20, .tmp 22], argTypes := #[50, 3, 9] }, 3, "base.go:507", #[⟨2, .data⟩, ⟨4, .data⟩, ⟨6, .data⟩], none⟩) rfl (fun K hK => ?_) AllReadyH.nil
  rw [if_pos (by kernel_rfl)]
  go_simp
  refine (rSlotOf_in g m d hd3 name hne _ ((unhide M2).has (unhide HM))).mono ?_
  rintro e w2 ⟨rfl, e9⟩
  rw [e9]
  clear e9 w2
  rw [unhide HFD]
  go_wp2_with fail
  refine hK.out _ _ (hS) (fun hS2 => ?_)
  clear hK K
  try simp only [Act.put, z1, z2, z3]
  refine tkP (i := 8) (oi := ⟨some 6, .assign (.tmp 23), 3, "base.go:507", #[⟨7, .data⟩, ⟨7, .chain⟩, ⟨0, .phase⟩, ⟨1, .phase⟩, ⟨2, .phase⟩, ⟨3, .phase⟩, ⟨4, .phase⟩, ⟨5, .phase⟩, ⟨6, .phase⟩, ⟨7, .phase⟩], none⟩) (v := .int .i64 ((j : Int))) hS2 ?_
  try simp only [Act.put, z1, z2, z3]
  refine wpAnyH_done (by kernel_rfl) ?_ _
  clear hS hS2
  have RV : w1.drew.heap[gx]? = some (.cells (stpA ⟨4, (d : Int), (dd : Int), p, name, tu, text⟩) 37) := by
    rw [(unhide HD).block gx (Array.getElem?_eq_some_iff.1 (unhide RX)).1]; exact unhide RX
  have hgl : gx < w1.drew.heap.size := (Array.getElem?_eq_some_iff.1 RV).1
  have QB := hide (show ∀ (W' : World) (rows : Array Value), Bm w1.drew W' g rows → ∀ j u, (stpA ⟨4, (d : Int), (dd : Int), p, name, tu, text⟩)[j]? = some u → W'.cell? ⟨gx, j, none⟩ = some u from fun W' rows N j u hj => by rw [cell_of_row _ _ _ _ _ _ ((N.chg.block gx hgl (unhide GN)).trans RV)]; exact hj)
  have N2 := hide (Bm.start (unhide M2).row)
  have CM := hide (unhide M2).chg
  clear RV hgl HC HD M2 BEL RX HFD GN
  generalize w1.drew = V at *
  have q0 := unhide QB _ _ (unhide N2) 0 _ rfl
  have N3 := hide ((unhide N2).call (Below.refl _ _).drew)
  go_wp2_with fail
  refine wp_region_held_drew (S := fun W' => HasAt W' g 0 m ∧ W'.cell? ⟨gx, 1, none⟩ = some (.int .i64 (d : Int))) (by kernel_rfl) (⟨(unhide N3).has (unhide HM), unhide QB _ _ (unhide N3) 1 _ rfl⟩) (fun hS => ?_)
  refine tkP (i := 0) (oi := ⟨some 83, .move (.tmp 0), 44, "base.go:526", #[], none⟩) (v := .pointer (some ⟨g, 0, none⟩)) hS ?_
  try simp only [Act.put, z1, z2, z3]
  refine tkP (i := 1) (oi := ⟨some 84, .fieldAddr 37 (.tmp 3) 1, 0, "base.go:526", #[], none⟩) (v := .pointer (some ⟨gx, 1, none⟩)) hS ?_
  try simp only [Act.put, z1, z2, z3]
  refine tkH (i := 2) (oi := ⟨some 85, .load 3 (.tmp 84), 3, "base.go:526", #[⟨1, .data⟩], none⟩) (v := .int .i64 (d : Int)) (fun W h => Op1.ld_int (.tmp 84) (by kernel_rfl) (by kernel_rfl) W (h.2)) hS ?_
  try simp only [Act.put, z1, z2, z3]
  refine tkP (i := 3) (oi := ⟨some 86, .move (.tmp 6), 3, "base.go:526", #[], none⟩) (v := .int .i64 (j : Int)) hS ?_
  try simp only [Act.put, z1, z2, z3]
  refine tkP (i := 4) (oi := ⟨some 87, .nilCheck (.tmp 83), 0, "base.go:526", #[⟨0, .data⟩], none⟩) (v := .pointer (some ⟨g, 0, none⟩)) hS ?_
  try simp only [Act.put, z1, z2, z3]
  refine tkP (i := 5) (oi := ⟨some 88, .fieldAddr 48 (.tmp 87) 0, 0, "base.go:526", #[⟨4, .data⟩], none⟩) (v := .pointer (some ⟨g, 0, none⟩)) hS ?_
  try simp only [Act.put, z1, z2, z3]
  refine tkP (i := 6) (oi := ⟨some 89, .fieldAddr 34 (.tmp 88) 1, 0, "base.go:526", #[⟨5, .data⟩], none⟩) (v := .pointer (some ⟨g, 40, none⟩)) hS ?_
  try simp only [Act.put, z1, z2, z3]
  refine tkH (i := 7) (oi := ⟨some 90, .indexAddr 29 (.tmp 89) (.tmp 85), 0, "base.go:526", #[⟨6, .data⟩, ⟨2, .data⟩], none⟩) (v := .pointer (some ⟨g, 40 + d * 12, none⟩)) (fun W h => Op1.ix_dir (.tmp 89) (.tmp 85) (by kernel_rfl) (by kernel_rfl) (by kernel_rfl) (hd3) W) hS ?_
  try simp only [Act.put, z1, z2, z3]
  refine tkH (i := 8) (oi := ⟨some 91, .indexAddr 28 (.tmp 90) (.tmp 86), 0, "base.go:526", #[⟨7, .data⟩, ⟨3, .data⟩], none⟩) (v := .pointer (some ⟨g, 40 + d * 12 + j * 3, none⟩)) (fun W h => Op1.ix_slot (.tmp 90) (.tmp 86) (by kernel_rfl) (by kernel_rfl) (by kernel_rfl) (hj4) W) hS ?_
  try simp only [Act.put, z1, z2, z3]
  refine tkP (i := 9) (oi := ⟨some 92, .fieldAddr 27 (.tmp 91) 1, 0, "base.go:526", #[⟨8, .data⟩], none⟩) (v := .pointer (some ⟨g, 40 + d * 12 + j * 3 + 1, none⟩)) hS ?_
  try simp only [Act.put, z1, z2, z3]
  refine tkH (i := 10) (oi := ⟨some 93, .load 3 (.tmp 92), 3, "base.go:526", #[⟨9, .data⟩], none⟩) (v := .int .i64 (n : Int)) (fun W h => Op1.ld_int (.tmp 92) (by kernel_rfl) (by kernel_rfl) W (by have := h.1.ino d j hd3 hj4; rw [unhide HI, Nat.zero_add] at this; exact this)) hS ?_
  try simp only [Act.put, z1, z2, z3]
  refine tkP (i := 11) (oi := ⟨some 8, .assign (.tmp 93), 3, "base.go:526", #[⟨10, .data⟩, ⟨0, .phase⟩, ⟨1, .phase⟩, ⟨2, .phase⟩, ⟨3, .phase⟩, ⟨4, .phase⟩, ⟨5, .phase⟩, ⟨6, .phase⟩, ⟨7, .phase⟩, ⟨8, .phase⟩, ⟨9, .phase⟩, ⟨10, .phase⟩], none⟩) (v := .int .i64 (n : Int)) hS ?_
  try simp only [Act.put, z1, z2, z3]
  refine wpAnyH_done (by kernel_rfl) ?_ _
  clear hS q0 N2 jn
  generalize V.drew = V1 at *
  have q0 := unhide QB _ _ (unhide N3) 0 _ rfl
  have N4 := hide ((unhide N3).call (Below.refl _ _).drew)
  go_wp2_with fail
  refine wp_region_held_drew (S := fun W' => HasAt W' g 0 m ∧ W'.cell? ⟨gx, 2, none⟩ = some (.int .i64 (dd : Int)) ∧ W'.cell? ⟨gx, 5, none⟩ = some (.string tu)) (by kernel_rfl) (⟨(unhide N4).has (unhide HM), unhide QB _ _ (unhide N4) 2 _ rfl, unhide QB _ _ (unhide N4) 5 _ rfl⟩) (fun hS => ?_)
  refine tkP (i := 0) (oi := ⟨some 108, .move (.tmp 0), 44, "base.go:529", #[], none⟩) (v := .pointer (some ⟨g, 0, none⟩)) hS ?_
  try simp only [Act.put, z1, z2, z3]
  refine tkP (i := 1) (oi := ⟨some 109, .nilCheck (.tmp 108), 0, "base.go:529", #[⟨0, .data⟩], none⟩) (v := .pointer (some ⟨g, 0, none⟩)) hS ?_
  try simp only [Act.put, z1, z2, z3]
  refine tkP (i := 2) (oi := ⟨some 110, .fieldAddr 48 (.tmp 109) 0, 0, "base.go:529", #[⟨1, .data⟩], none⟩) (v := .pointer (some ⟨g, 0, none⟩)) hS ?_
  try simp only [Act.put, z1, z2, z3]
  refine tkP (i := 3) (oi := ⟨some 111, .fieldAddr 37 (.tmp 3) 2, 0, "base.go:529", #[], none⟩) (v := .pointer (some ⟨gx, 2, none⟩)) hS ?_
  try simp only [Act.put, z1, z2, z3]
  refine tkH (i := 4) (oi := ⟨some 112, .load 3 (.tmp 111), 3, "base.go:529", #[⟨3, .data⟩], none⟩) (v := .int .i64 (dd : Int)) (fun W h => Op1.ld_int (.tmp 111) (by kernel_rfl) (by kernel_rfl) W (h.2.1)) hS ?_
  try simp only [Act.put, z1, z2, z3]
  refine tkP (i := 5) (oi := ⟨some 113, .fieldAddr 37 (.tmp 3) 5, 0, "base.go:529", #[], none⟩) (v := .pointer (some ⟨gx, 5, none⟩)) hS ?_
  try simp only [Act.put, z1, z2, z3]
  refine tkH (i := 6) (oi := ⟨some 114, .load 9 (.tmp 113), 9, "base.go:529", #[⟨5, .data⟩], none⟩) (v := .string tu) (fun W h => Op1.ld_str (.tmp 113) (by kernel_rfl) (by kernel_rfl) W (h.2.2)) hS ?_
  try simp only [Act.put, z1, z2, z3]
  refine wpAnyH_ready (rs := [7]) (by kernel_rfl) (by simp) ?_
  refine AllReadyH.cons (o := ⟨some 115, .call { callee := .value (.func 46), args := #[.tmp 110, .tmp 112, .tmp 114], argTypes := #[50, 3, 9] }, 3, "base.go:529", #[⟨2, .data⟩, ⟨4, .data⟩, ⟨6, .data⟩], none⟩) rfl (fun K hK => ?_) AllReadyH.nil
  rw [if_pos (by kernel_rfl)]
  go_simp
  refine (rSlotOf_in g m dd hdd tu htne _ ((unhide N4).has (unhide HM))).mono ?_
  rintro e w2 ⟨rfl, e9⟩
  rw [e9]
  clear e9 w2
  rw [unhide HFT]
  go_wp2_with fail
  refine hK.out _ _ (hS) (fun hS2 => ?_)
  clear hK K
  try simp only [Act.put, z1, z2, z3]
  refine tkH (i := 8) (oi := ⟨some 116, .binOp .geq 3 (.tmp 115) (.const (.int .i64 0)) 3, 4, "base.go:529", #[⟨7, .data⟩], none⟩) (v := .bool true) (fun W h => Op1.geq0t (j := jt) (.tmp 115) (by kernel_rfl) (by kernel_rfl) (by kernel_rfl) W) hS2 ?_
  try simp only [Act.put, z1, z2, z3]
  refine wpAnyH_done (by kernel_rfl) ?_ _
  clear hS hS2 q0 nz
  generalize V1.drew = V2 at *
  go_wp2_with fail
  go_ret
  exact ⟨rfl, (unhide N4).after (unhide CM)⟩
set_option maxHeartbeats 4000000 in
set_option maxRecDepth 100000 in
theorem files0_renameRoom (h : W.heap[g]? = some (.cells (cs ++ (ds ++ Sft.btl last t1 t2 t3 t4)) 48)) (hm : IsImg cs m) (hk : IsImg ds k) (p : Int) {dd : Nat} (hdd : dd < 3) (name tu text : ByteArray) (hn : name.size ≤ maxLen) (ht : tu.size ≤ maxLen) (hx : text.size ≤ maxLen) {d : Nat} (hd3 : d < 3) (hne : name.toList.isEmpty = false) (hck : chk ⟨4, (d : Int), (dd : Int), p, name, tu, text⟩ = 0) {j n : Nat} (hfd : m.find d name.toList = (j : Int)) (hj4 : j < 4) (hn8 : n < 8) (hino : m.ino d j = (n : Int)) (htne : tu.toList.isEmpty = false) (hft : m.find dd tu.toList = -1) (hp : Img.noPlace m k (dd : Int) tu = true) :
    Calls Tryz.prog 51 #[.pointer (some ⟨g, 0, none⟩), .agg (stpA ⟨4, (d : Int), (dd : Int), p, name, tu, text⟩)] W fun e w' => e = .returned (.int .i64 6) ∧ Bm W w' g (cs ++ (ds ++ Sft.btl last t1 t2 t3 t4)) := by
  have HI := hide hino
  have jn : decide ((j : Int) < 0) = false := by simp
  have nz : (n : Int) < 8 := by omega
  clear hino
  have HFT := hide hft
  have HP := hide hp
  clear hft hp
  have BEL := hide (show Below W.heap.size W (W.alloc (.cells (stpA ⟨4, (d : Int), (dd : Int), p, name, tu, text⟩) 37)) from (Below.refl _ W).alloc (Nat.le_refl _) _)
  have C1 := hide (Idl.stepFault_any ⟨4, (d : Int), (dd : Int), p, name, tu, text⟩ hn ht hx (W.alloc (.cells (stpA ⟨4, (d : Int), (dd : Int), p, name, tu, text⟩) 37)))
  rw [hck] at C1
  have HC := hide fun W' bW => stp_box W ⟨4, (d : Int), (dd : Int), p, name, tu, text⟩ W' bW
  have M0 := hide ((Bm.start h).call (unhide BEL))
  have GN := hide (show W.heap.size ≠ g from by have := (Array.getElem?_eq_some_iff.1 h).1; omega)
  have RX := hide (heap_alloc_last W (.cells (stpA ⟨4, (d : Int), (dd : Int), p, name, tu, text⟩) 37))
  have HM := hide hm
  have HK := hide hk
  have HFD := hide hfd
  clear h hck hfd hm hk
  simp only [stpA] at C1
  go_enter Tryz.func51, Tryz.ntmps51
  go_wp2_with fail
  refine (unhide C1).mono ?_
  rintro e w1 ⟨rfl, b1⟩
  have M1 := hide ((unhide M0).call b1)
  have HD := hide (b1.trans ((Below.refl w1.heap.size w1).drew.mono b1.size))
  have M2 := hide ((unhide M1).call (Below.refl w1.heap.size w1).drew)
  clear b1 C1 M0 M1
  generalize W.heap.size = gx at *
  go_wp2_with fail
  refine wp_region_held_drew (S := fun W' => HasAt W' g 0 m ∧ W'.cell? ⟨gx, 1, none⟩ = some (.int .i64 (d : Int)) ∧ W'.cell? ⟨gx, 4, none⟩ = some (.string name)) (by kernel_rfl) (⟨(unhide M2).has (unhide HM), unhide HC _ (unhide HD) 1 _ rfl, unhide HC _ (unhide HD) 4 _ rfl⟩) (fun hS => ?_)
  refine tkP (i := 0) (oi := ⟨some 16, .move (.tmp 0), 44, "base.go:507", #[], none⟩) (v := .pointer (some ⟨g, 0, none⟩)) hS ?_
  try simp only [Act.put, z1, z2, z3]
  refine tkP (i := 1) (oi := ⟨some 17, .nilCheck (.tmp 16), 0, "base.go:507", #[⟨0, .data⟩], none⟩) (v := .pointer (some ⟨g, 0, none⟩)) hS ?_
  try simp only [Act.put, z1, z2, z3]
  refine tkP (i := 2) (oi := ⟨some 18, .fieldAddr 48 (.tmp 17) 0, 0, "base.go:507", #[⟨1, .data⟩], none⟩) (v := .pointer (some ⟨g, 0, none⟩)) hS ?_
  try simp only [Act.put, z1, z2, z3]
  refine tkP (i := 3) (oi := ⟨some 19, .fieldAddr 37 (.tmp 3) 1, 0, "base.go:507", #[], none⟩) (v := .pointer (some ⟨gx, 1, none⟩)) hS ?_
  try simp only [Act.put, z1, z2, z3]
  refine tkH (i := 4) (oi := ⟨some 20, .load 3 (.tmp 19), 3, "base.go:507", #[⟨3, .data⟩], none⟩) (v := .int .i64 (d : Int)) (fun W h => Op1.ld_int (.tmp 19) (by kernel_rfl) (by kernel_rfl) W (h.2.1)) hS ?_
  try simp only [Act.put, z1, z2, z3]
  refine tkP (i := 5) (oi := ⟨some 21, .fieldAddr 37 (.tmp 3) 4, 0, "base.go:507", #[], none⟩) (v := .pointer (some ⟨gx, 4, none⟩)) hS ?_
  try simp only [Act.put, z1, z2, z3]
  refine tkH (i := 6) (oi := ⟨some 22, .load 9 (.tmp 21), 9, "base.go:507", #[⟨5, .data⟩], none⟩) (v := .string name) (fun W h => Op1.ld_str (.tmp 21) (by kernel_rfl) (by kernel_rfl) W (h.2.2)) hS ?_
  try simp only [Act.put, z1, z2, z3]
  refine wpAnyH_ready (rs := [7]) (by kernel_rfl) (by simp) ?_
  refine AllReadyH.cons (o := ⟨some 23, .call { callee := .value (.func 46), args := #[.tmp 18, .tmp 20, .tmp 22], argTypes := #[50, 3, 9] }, 3, "base.go:507", #[⟨2, .data⟩, ⟨4, .data⟩, ⟨6, .data⟩], none⟩) rfl (fun K hK => ?_) AllReadyH.nil
  rw [if_pos (by kernel_rfl)]
  go_simp
  refine (rSlotOf_in g m d hd3 name hne _ ((unhide M2).has (unhide HM))).mono ?_
  rintro e w2 ⟨rfl, e9⟩
  rw [e9]
  clear e9 w2
  rw [unhide HFD]
  go_wp2_with fail
  refine hK.out _ _ (hS) (fun hS2 => ?_)
  clear hK K
  try simp only [Act.put, z1, z2, z3]
  refine tkP (i := 8) (oi := ⟨some 6, .assign (.tmp 23), 3, "base.go:507", #[⟨7, .data⟩, ⟨7, .chain⟩, ⟨0, .phase⟩, ⟨1, .phase⟩, ⟨2, .phase⟩, ⟨3, .phase⟩, ⟨4, .phase⟩, ⟨5, .phase⟩, ⟨6, .phase⟩, ⟨7, .phase⟩], none⟩) (v := .int .i64 ((j : Int))) hS2 ?_
  try simp only [Act.put, z1, z2, z3]
  refine wpAnyH_done (by kernel_rfl) ?_ _
  clear hS hS2
  have RV : w1.drew.heap[gx]? = some (.cells (stpA ⟨4, (d : Int), (dd : Int), p, name, tu, text⟩) 37) := by
    rw [(unhide HD).block gx (Array.getElem?_eq_some_iff.1 (unhide RX)).1]; exact unhide RX
  have hgl : gx < w1.drew.heap.size := (Array.getElem?_eq_some_iff.1 RV).1
  have QB := hide (show ∀ (W' : World) (rows : Array Value), Bm w1.drew W' g rows → ∀ j u, (stpA ⟨4, (d : Int), (dd : Int), p, name, tu, text⟩)[j]? = some u → W'.cell? ⟨gx, j, none⟩ = some u from fun W' rows N j u hj => by rw [cell_of_row _ _ _ _ _ _ ((N.chg.block gx hgl (unhide GN)).trans RV)]; exact hj)
  have N2 := hide (Bm.start (unhide M2).row)
  have CM := hide (unhide M2).chg
  clear RV hgl HC HD M2 BEL RX HFD GN
  generalize w1.drew = V at *
  have q0 := unhide QB _ _ (unhide N2) 0 _ rfl
  have N3 := hide ((unhide N2).call (Below.refl _ _).drew)
  go_wp2_with fail
  refine wp_region_held_drew (S := fun W' => HasAt W' g 0 m ∧ W'.cell? ⟨gx, 1, none⟩ = some (.int .i64 (d : Int))) (by kernel_rfl) (⟨(unhide N3).has (unhide HM), unhide QB _ _ (unhide N3) 1 _ rfl⟩) (fun hS => ?_)
  refine tkP (i := 0) (oi := ⟨some 83, .move (.tmp 0), 44, "base.go:526", #[], none⟩) (v := .pointer (some ⟨g, 0, none⟩)) hS ?_
  try simp only [Act.put, z1, z2, z3]
  refine tkP (i := 1) (oi := ⟨some 84, .fieldAddr 37 (.tmp 3) 1, 0, "base.go:526", #[], none⟩) (v := .pointer (some ⟨gx, 1, none⟩)) hS ?_
  try simp only [Act.put, z1, z2, z3]
  refine tkH (i := 2) (oi := ⟨some 85, .load 3 (.tmp 84), 3, "base.go:526", #[⟨1, .data⟩], none⟩) (v := .int .i64 (d : Int)) (fun W h => Op1.ld_int (.tmp 84) (by kernel_rfl) (by kernel_rfl) W (h.2)) hS ?_
  try simp only [Act.put, z1, z2, z3]
  refine tkP (i := 3) (oi := ⟨some 86, .move (.tmp 6), 3, "base.go:526", #[], none⟩) (v := .int .i64 (j : Int)) hS ?_
  try simp only [Act.put, z1, z2, z3]
  refine tkP (i := 4) (oi := ⟨some 87, .nilCheck (.tmp 83), 0, "base.go:526", #[⟨0, .data⟩], none⟩) (v := .pointer (some ⟨g, 0, none⟩)) hS ?_
  try simp only [Act.put, z1, z2, z3]
  refine tkP (i := 5) (oi := ⟨some 88, .fieldAddr 48 (.tmp 87) 0, 0, "base.go:526", #[⟨4, .data⟩], none⟩) (v := .pointer (some ⟨g, 0, none⟩)) hS ?_
  try simp only [Act.put, z1, z2, z3]
  refine tkP (i := 6) (oi := ⟨some 89, .fieldAddr 34 (.tmp 88) 1, 0, "base.go:526", #[⟨5, .data⟩], none⟩) (v := .pointer (some ⟨g, 40, none⟩)) hS ?_
  try simp only [Act.put, z1, z2, z3]
  refine tkH (i := 7) (oi := ⟨some 90, .indexAddr 29 (.tmp 89) (.tmp 85), 0, "base.go:526", #[⟨6, .data⟩, ⟨2, .data⟩], none⟩) (v := .pointer (some ⟨g, 40 + d * 12, none⟩)) (fun W h => Op1.ix_dir (.tmp 89) (.tmp 85) (by kernel_rfl) (by kernel_rfl) (by kernel_rfl) (hd3) W) hS ?_
  try simp only [Act.put, z1, z2, z3]
  refine tkH (i := 8) (oi := ⟨some 91, .indexAddr 28 (.tmp 90) (.tmp 86), 0, "base.go:526", #[⟨7, .data⟩, ⟨3, .data⟩], none⟩) (v := .pointer (some ⟨g, 40 + d * 12 + j * 3, none⟩)) (fun W h => Op1.ix_slot (.tmp 90) (.tmp 86) (by kernel_rfl) (by kernel_rfl) (by kernel_rfl) (hj4) W) hS ?_
  try simp only [Act.put, z1, z2, z3]
  refine tkP (i := 9) (oi := ⟨some 92, .fieldAddr 27 (.tmp 91) 1, 0, "base.go:526", #[⟨8, .data⟩], none⟩) (v := .pointer (some ⟨g, 40 + d * 12 + j * 3 + 1, none⟩)) hS ?_
  try simp only [Act.put, z1, z2, z3]
  refine tkH (i := 10) (oi := ⟨some 93, .load 3 (.tmp 92), 3, "base.go:526", #[⟨9, .data⟩], none⟩) (v := .int .i64 (n : Int)) (fun W h => Op1.ld_int (.tmp 92) (by kernel_rfl) (by kernel_rfl) W (by have := h.1.ino d j hd3 hj4; rw [unhide HI, Nat.zero_add] at this; exact this)) hS ?_
  try simp only [Act.put, z1, z2, z3]
  refine tkP (i := 11) (oi := ⟨some 8, .assign (.tmp 93), 3, "base.go:526", #[⟨10, .data⟩, ⟨0, .phase⟩, ⟨1, .phase⟩, ⟨2, .phase⟩, ⟨3, .phase⟩, ⟨4, .phase⟩, ⟨5, .phase⟩, ⟨6, .phase⟩, ⟨7, .phase⟩, ⟨8, .phase⟩, ⟨9, .phase⟩, ⟨10, .phase⟩], none⟩) (v := .int .i64 (n : Int)) hS ?_
  try simp only [Act.put, z1, z2, z3]
  refine wpAnyH_done (by kernel_rfl) ?_ _
  clear hS q0 N2 jn
  generalize V.drew = V1 at *
  have q0 := unhide QB _ _ (unhide N3) 0 _ rfl
  have N4 := hide ((unhide N3).call (Below.refl _ _).drew)
  go_wp2_with fail
  refine wp_region_held_drew (S := fun W' => HasAt W' g 0 m ∧ W'.cell? ⟨gx, 2, none⟩ = some (.int .i64 (dd : Int)) ∧ W'.cell? ⟨gx, 5, none⟩ = some (.string tu)) (by kernel_rfl) (⟨(unhide N4).has (unhide HM), unhide QB _ _ (unhide N4) 2 _ rfl, unhide QB _ _ (unhide N4) 5 _ rfl⟩) (fun hS => ?_)
  refine tkP (i := 0) (oi := ⟨some 108, .move (.tmp 0), 44, "base.go:529", #[], none⟩) (v := .pointer (some ⟨g, 0, none⟩)) hS ?_
  try simp only [Act.put, z1, z2, z3]
  refine tkP (i := 1) (oi := ⟨some 109, .nilCheck (.tmp 108), 0, "base.go:529", #[⟨0, .data⟩], none⟩) (v := .pointer (some ⟨g, 0, none⟩)) hS ?_
  try simp only [Act.put, z1, z2, z3]
  refine tkP (i := 2) (oi := ⟨some 110, .fieldAddr 48 (.tmp 109) 0, 0, "base.go:529", #[⟨1, .data⟩], none⟩) (v := .pointer (some ⟨g, 0, none⟩)) hS ?_
  try simp only [Act.put, z1, z2, z3]
  refine tkP (i := 3) (oi := ⟨some 111, .fieldAddr 37 (.tmp 3) 2, 0, "base.go:529", #[], none⟩) (v := .pointer (some ⟨gx, 2, none⟩)) hS ?_
  try simp only [Act.put, z1, z2, z3]
  refine tkH (i := 4) (oi := ⟨some 112, .load 3 (.tmp 111), 3, "base.go:529", #[⟨3, .data⟩], none⟩) (v := .int .i64 (dd : Int)) (fun W h => Op1.ld_int (.tmp 111) (by kernel_rfl) (by kernel_rfl) W (h.2.1)) hS ?_
  try simp only [Act.put, z1, z2, z3]
  refine tkP (i := 5) (oi := ⟨some 113, .fieldAddr 37 (.tmp 3) 5, 0, "base.go:529", #[], none⟩) (v := .pointer (some ⟨gx, 5, none⟩)) hS ?_
  try simp only [Act.put, z1, z2, z3]
  refine tkH (i := 6) (oi := ⟨some 114, .load 9 (.tmp 113), 9, "base.go:529", #[⟨5, .data⟩], none⟩) (v := .string tu) (fun W h => Op1.ld_str (.tmp 113) (by kernel_rfl) (by kernel_rfl) W (h.2.2)) hS ?_
  try simp only [Act.put, z1, z2, z3]
  refine wpAnyH_ready (rs := [7]) (by kernel_rfl) (by simp) ?_
  refine AllReadyH.cons (o := ⟨some 115, .call { callee := .value (.func 46), args := #[.tmp 110, .tmp 112, .tmp 114], argTypes := #[50, 3, 9] }, 3, "base.go:529", #[⟨2, .data⟩, ⟨4, .data⟩, ⟨6, .data⟩], none⟩) rfl (fun K hK => ?_) AllReadyH.nil
  rw [if_pos (by kernel_rfl)]
  go_simp
  refine (rSlotOf_in g m dd hdd tu htne _ ((unhide N4).has (unhide HM))).mono ?_
  rintro e w2 ⟨rfl, e9⟩
  rw [e9]
  clear e9 w2
  rw [unhide HFT]
  go_wp2_with fail
  refine hK.out _ _ (hS) (fun hS2 => ?_)
  clear hK K
  try simp only [Act.put, z1, z2, z3]
  refine tkP (i := 8) (oi := ⟨some 116, .binOp .geq 3 (.tmp 115) (.const (.int .i64 0)) 3, 4, "base.go:529", #[⟨7, .data⟩], none⟩) (v := .bool false) hS2 ?_
  try simp only [Act.put, z1, z2, z3]
  refine wpAnyH_done (by kernel_rfl) ?_ _
  clear hS hS2 q0 nz
  generalize V1.drew = V2 at *
  have CR := hide (Sft.rRoom_any g m k dd hdd tu htne V2 ((unhide N4).has (unhide HM)) ((unhide N4).hasD (unhide HM) (unhide HK)))
  rw [unhide HP] at CR
  have q2 := unhide QB _ _ (unhide N4) 2 _ rfl
  have q5 := unhide QB _ _ (unhide N4) 5 _ rfl
  go_wp2_with fail
  refine (unhide CR).mono ?_
  rintro e w3 ⟨rfl, b3⟩
  have N5 := hide ((unhide N4).call b3)
  clear b3
  go_wp2_with fail
  go_ret
  exact ⟨rfl, (unhide N5).after (unhide CM)⟩
set_option maxHeartbeats 4000000 in
set_option maxRecDepth 100000 in
theorem files0_putFull (h : W.heap[g]? = some (.cells (cs ++ (ds ++ Sft.btl last t1 t2 t3 t4)) 48)) (hm : IsImg cs m) (hk : IsImg ds k) (toDir : Int) {q : Nat} (hq : q < 2) (name tu text : ByteArray) (hn : name.size ≤ maxLen) (ht : tu.size ≤ maxLen) (hx : text.size ≤ maxLen) {d : Nat} (hd3 : d < 3) (hne : name.toList.isEmpty = false) (hck : chk ⟨5, (d : Int), toDir, (q : Int), name, tu, text⟩ = 0) {j n : Nat} (hfd : m.find d name.toList = (j : Int)) (hj4 : j < 4) (hn8 : n < 8) (hino : m.ino d j = (n : Int)) (hp : m.part n q < 0) (hf : Img.freeData m k < 0) :
    Calls Tryz.prog 51 #[.pointer (some ⟨g, 0, none⟩), .agg (stpA ⟨5, (d : Int), toDir, (q : Int), name, tu, text⟩)] W fun e w' => e = .returned (.int .i64 6) ∧ Bm W w' g (cs ++ (ds ++ Sft.btl last t1 t2 t3 t4)) := by
  have HI := hide hino
  have jn : decide ((j : Int) < 0) = false := by simp
  have nz : (n : Int) < 8 := by omega
  clear hino
  have HP := hide hp
  have HF := hide hf
  clear hp hf
  have BEL := hide (show Below W.heap.size W (W.alloc (.cells (stpA ⟨5, (d : Int), toDir, (q : Int), name, tu, text⟩) 37)) from (Below.refl _ W).alloc (Nat.le_refl _) _)
  have C1 := hide (Idl.stepFault_any ⟨5, (d : Int), toDir, (q : Int), name, tu, text⟩ hn ht hx (W.alloc (.cells (stpA ⟨5, (d : Int), toDir, (q : Int), name, tu, text⟩) 37)))
  rw [hck] at C1
  have HC := hide fun W' bW => stp_box W ⟨5, (d : Int), toDir, (q : Int), name, tu, text⟩ W' bW
  have M0 := hide ((Bm.start h).call (unhide BEL))
  have GN := hide (show W.heap.size ≠ g from by have := (Array.getElem?_eq_some_iff.1 h).1; omega)
  have RX := hide (heap_alloc_last W (.cells (stpA ⟨5, (d : Int), toDir, (q : Int), name, tu, text⟩) 37))
  have HM := hide hm
  have HK := hide hk
  have HFD := hide hfd
  clear h hck hfd hm hk
  simp only [stpA] at C1
  go_enter Tryz.func51, Tryz.ntmps51
  go_wp2_with fail
  refine (unhide C1).mono ?_
  rintro e w1 ⟨rfl, b1⟩
  have M1 := hide ((unhide M0).call b1)
  have HD := hide (b1.trans ((Below.refl w1.heap.size w1).drew.mono b1.size))
  have M2 := hide ((unhide M1).call (Below.refl w1.heap.size w1).drew)
  clear b1 C1 M0 M1
  generalize W.heap.size = gx at *
  go_wp2_with fail
  refine wp_region_held_drew (S := fun W' => HasAt W' g 0 m ∧ W'.cell? ⟨gx, 1, none⟩ = some (.int .i64 (d : Int)) ∧ W'.cell? ⟨gx, 4, none⟩ = some (.string name)) (by kernel_rfl) (⟨(unhide M2).has (unhide HM), unhide HC _ (unhide HD) 1 _ rfl, unhide HC _ (unhide HD) 4 _ rfl⟩) (fun hS => ?_)
  refine tkP (i := 0) (oi := ⟨some 16, .move (.tmp 0), 44, "base.go:507", #[], none⟩) (v := .pointer (some ⟨g, 0, none⟩)) hS ?_
  try simp only [Act.put, z1, z2, z3]
  refine tkP (i := 1) (oi := ⟨some 17, .nilCheck (.tmp 16), 0, "base.go:507", #[⟨0, .data⟩], none⟩) (v := .pointer (some ⟨g, 0, none⟩)) hS ?_
  try simp only [Act.put, z1, z2, z3]
  refine tkP (i := 2) (oi := ⟨some 18, .fieldAddr 48 (.tmp 17) 0, 0, "base.go:507", #[⟨1, .data⟩], none⟩) (v := .pointer (some ⟨g, 0, none⟩)) hS ?_
  try simp only [Act.put, z1, z2, z3]
  refine tkP (i := 3) (oi := ⟨some 19, .fieldAddr 37 (.tmp 3) 1, 0, "base.go:507", #[], none⟩) (v := .pointer (some ⟨gx, 1, none⟩)) hS ?_
  try simp only [Act.put, z1, z2, z3]
  refine tkH (i := 4) (oi := ⟨some 20, .load 3 (.tmp 19), 3, "base.go:507", #[⟨3, .data⟩], none⟩) (v := .int .i64 (d : Int)) (fun W h => Op1.ld_int (.tmp 19) (by kernel_rfl) (by kernel_rfl) W (h.2.1)) hS ?_
  try simp only [Act.put, z1, z2, z3]
  refine tkP (i := 5) (oi := ⟨some 21, .fieldAddr 37 (.tmp 3) 4, 0, "base.go:507", #[], none⟩) (v := .pointer (some ⟨gx, 4, none⟩)) hS ?_
  try simp only [Act.put, z1, z2, z3]
  refine tkH (i := 6) (oi := ⟨some 22, .load 9 (.tmp 21), 9, "base.go:507", #[⟨5, .data⟩], none⟩) (v := .string name) (fun W h => Op1.ld_str (.tmp 21) (by kernel_rfl) (by kernel_rfl) W (h.2.2)) hS ?_
  try simp only [Act.put, z1, z2, z3]
  refine wpAnyH_ready (rs := [7]) (by kernel_rfl) (by simp) ?_
  refine AllReadyH.cons (o := ⟨some 23, .call { callee := .value (.func 46), args := #[.tmp 18, .tmp 20, .tmp 22], argTypes := #[50, 3, 9] }, 3, "base.go:507", #[⟨2, .data⟩, ⟨4, .data⟩, ⟨6, .data⟩], none⟩) rfl (fun K hK => ?_) AllReadyH.nil
  rw [if_pos (by kernel_rfl)]
  go_simp
  refine (rSlotOf_in g m d hd3 name hne _ ((unhide M2).has (unhide HM))).mono ?_
  rintro e w2 ⟨rfl, e9⟩
  rw [e9]
  clear e9 w2
  rw [unhide HFD]
  go_wp2_with fail
  refine hK.out _ _ (hS) (fun hS2 => ?_)
  clear hK K
  try simp only [Act.put, z1, z2, z3]
  refine tkP (i := 8) (oi := ⟨some 6, .assign (.tmp 23), 3, "base.go:507", #[⟨7, .data⟩, ⟨7, .chain⟩, ⟨0, .phase⟩, ⟨1, .phase⟩, ⟨2, .phase⟩, ⟨3, .phase⟩, ⟨4, .phase⟩, ⟨5, .phase⟩, ⟨6, .phase⟩, ⟨7, .phase⟩], none⟩) (v := .int .i64 ((j : Int))) hS2 ?_
  try simp only [Act.put, z1, z2, z3]
  refine wpAnyH_done (by kernel_rfl) ?_ _
  clear hS hS2
  have RV : w1.drew.heap[gx]? = some (.cells (stpA ⟨5, (d : Int), toDir, (q : Int), name, tu, text⟩) 37) := by
    rw [(unhide HD).block gx (Array.getElem?_eq_some_iff.1 (unhide RX)).1]; exact unhide RX
  have hgl : gx < w1.drew.heap.size := (Array.getElem?_eq_some_iff.1 RV).1
  have QB := hide (show ∀ (W' : World) (rows : Array Value), Bm w1.drew W' g rows → ∀ j u, (stpA ⟨5, (d : Int), toDir, (q : Int), name, tu, text⟩)[j]? = some u → W'.cell? ⟨gx, j, none⟩ = some u from fun W' rows N j u hj => by rw [cell_of_row _ _ _ _ _ _ ((N.chg.block gx hgl (unhide GN)).trans RV)]; exact hj)
  have N2 := hide (Bm.start (unhide M2).row)
  have CM := hide (unhide M2).chg
  clear RV hgl HC HD M2 BEL RX HFD GN
  generalize w1.drew = V at *
  have q0 := unhide QB _ _ (unhide N2) 0 _ rfl
  have N3 := hide ((unhide N2).call (Below.refl _ _).drew)
  go_wp2_with fail
  refine wp_region_held_drew (S := fun W' => HasAt W' g 0 m ∧ W'.cell? ⟨gx, 1, none⟩ = some (.int .i64 (d : Int))) (by kernel_rfl) (⟨(unhide N3).has (unhide HM), unhide QB _ _ (unhide N3) 1 _ rfl⟩) (fun hS => ?_)
  refine tkP (i := 0) (oi := ⟨some 83, .move (.tmp 0), 44, "base.go:526", #[], none⟩) (v := .pointer (some ⟨g, 0, none⟩)) hS ?_
  try simp only [Act.put, z1, z2, z3]
  refine tkP (i := 1) (oi := ⟨some 84, .fieldAddr 37 (.tmp 3) 1, 0, "base.go:526", #[], none⟩) (v := .pointer (some ⟨gx, 1, none⟩)) hS ?_
  try simp only [Act.put, z1, z2, z3]
  refine tkH (i := 2) (oi := ⟨some 85, .load 3 (.tmp 84), 3, "base.go:526", #[⟨1, .data⟩], none⟩) (v := .int .i64 (d : Int)) (fun W h => Op1.ld_int (.tmp 84) (by kernel_rfl) (by kernel_rfl) W (h.2)) hS ?_
  try simp only [Act.put, z1, z2, z3]
  refine tkP (i := 3) (oi := ⟨some 86, .move (.tmp 6), 3, "base.go:526", #[], none⟩) (v := .int .i64 (j : Int)) hS ?_
  try simp only [Act.put, z1, z2, z3]
  refine tkP (i := 4) (oi := ⟨some 87, .nilCheck (.tmp 83), 0, "base.go:526", #[⟨0, .data⟩], none⟩) (v := .pointer (some ⟨g, 0, none⟩)) hS ?_
  try simp only [Act.put, z1, z2, z3]
  refine tkP (i := 5) (oi := ⟨some 88, .fieldAddr 48 (.tmp 87) 0, 0, "base.go:526", #[⟨4, .data⟩], none⟩) (v := .pointer (some ⟨g, 0, none⟩)) hS ?_
  try simp only [Act.put, z1, z2, z3]
  refine tkP (i := 6) (oi := ⟨some 89, .fieldAddr 34 (.tmp 88) 1, 0, "base.go:526", #[⟨5, .data⟩], none⟩) (v := .pointer (some ⟨g, 40, none⟩)) hS ?_
  try simp only [Act.put, z1, z2, z3]
  refine tkH (i := 7) (oi := ⟨some 90, .indexAddr 29 (.tmp 89) (.tmp 85), 0, "base.go:526", #[⟨6, .data⟩, ⟨2, .data⟩], none⟩) (v := .pointer (some ⟨g, 40 + d * 12, none⟩)) (fun W h => Op1.ix_dir (.tmp 89) (.tmp 85) (by kernel_rfl) (by kernel_rfl) (by kernel_rfl) (hd3) W) hS ?_
  try simp only [Act.put, z1, z2, z3]
  refine tkH (i := 8) (oi := ⟨some 91, .indexAddr 28 (.tmp 90) (.tmp 86), 0, "base.go:526", #[⟨7, .data⟩, ⟨3, .data⟩], none⟩) (v := .pointer (some ⟨g, 40 + d * 12 + j * 3, none⟩)) (fun W h => Op1.ix_slot (.tmp 90) (.tmp 86) (by kernel_rfl) (by kernel_rfl) (by kernel_rfl) (hj4) W) hS ?_
  try simp only [Act.put, z1, z2, z3]
  refine tkP (i := 9) (oi := ⟨some 92, .fieldAddr 27 (.tmp 91) 1, 0, "base.go:526", #[⟨8, .data⟩], none⟩) (v := .pointer (some ⟨g, 40 + d * 12 + j * 3 + 1, none⟩)) hS ?_
  try simp only [Act.put, z1, z2, z3]
  refine tkH (i := 10) (oi := ⟨some 93, .load 3 (.tmp 92), 3, "base.go:526", #[⟨9, .data⟩], none⟩) (v := .int .i64 (n : Int)) (fun W h => Op1.ld_int (.tmp 92) (by kernel_rfl) (by kernel_rfl) W (by have := h.1.ino d j hd3 hj4; rw [unhide HI, Nat.zero_add] at this; exact this)) hS ?_
  try simp only [Act.put, z1, z2, z3]
  refine tkP (i := 11) (oi := ⟨some 8, .assign (.tmp 93), 3, "base.go:526", #[⟨10, .data⟩, ⟨0, .phase⟩, ⟨1, .phase⟩, ⟨2, .phase⟩, ⟨3, .phase⟩, ⟨4, .phase⟩, ⟨5, .phase⟩, ⟨6, .phase⟩, ⟨7, .phase⟩, ⟨8, .phase⟩, ⟨9, .phase⟩, ⟨10, .phase⟩], none⟩) (v := .int .i64 (n : Int)) hS ?_
  try simp only [Act.put, z1, z2, z3]
  refine wpAnyH_done (by kernel_rfl) ?_ _
  clear hS q0 N2 jn
  generalize V.drew = V1 at *
  have q0 := unhide QB _ _ (unhide N3) 0 _ rfl
  have N4 := hide ((unhide N3).call (Below.refl _ _).drew)
  go_wp2_with fail
  refine wp_region_held_drew (S := fun W' => HasAt W' g 0 m ∧ W'.cell? ⟨gx, 3, none⟩ = some (.int .i64 (q : Int))) (by kernel_rfl) (⟨(unhide N4).has (unhide HM), unhide QB _ _ (unhide N4) 3 _ rfl⟩) (fun hS => ?_)
  refine tkP (i := 0) (oi := ⟨some 163, .move (.tmp 9), 101, "base.go:545", #[], none⟩) (v := .pointer (some ⟨g, n * 5, none⟩)) hS ?_
  try simp only [Act.put, z1, z2, z3]
  refine tkP (i := 1) (oi := ⟨some 164, .fieldAddr 37 (.tmp 3) 3, 0, "base.go:545", #[], none⟩) (v := .pointer (some ⟨gx, 3, none⟩)) hS ?_
  try simp only [Act.put, z1, z2, z3]
  refine tkH (i := 2) (oi := ⟨some 165, .load 3 (.tmp 164), 3, "base.go:545", #[⟨1, .data⟩], none⟩) (v := .int .i64 (q : Int)) (fun W h => Op1.ld_int (.tmp 164) (by kernel_rfl) (by kernel_rfl) W (h.2)) hS ?_
  try simp only [Act.put, z1, z2, z3]
  refine tkP (i := 3) (oi := ⟨some 166, .nilCheck (.tmp 163), 0, "base.go:545", #[⟨0, .data⟩], none⟩) (v := .pointer (some ⟨g, n * 5, none⟩)) hS ?_
  try simp only [Act.put, z1, z2, z3]
  refine tkP (i := 4) (oi := ⟨some 167, .fieldAddr 24 (.tmp 166) 3, 0, "base.go:545", #[⟨3, .data⟩], none⟩) (v := .pointer (some ⟨g, n * 5 + 3, none⟩)) hS ?_
  try simp only [Act.put, z1, z2, z3]
  refine tkH (i := 5) (oi := ⟨some 168, .indexAddr 22 (.tmp 167) (.tmp 165), 0, "base.go:545", #[⟨4, .data⟩, ⟨2, .data⟩], none⟩) (v := .pointer (some ⟨g, n * 5 + 3 + q, none⟩)) (fun W h => Op1.ix_part (.tmp 167) (.tmp 165) (by kernel_rfl) (by kernel_rfl) (by kernel_rfl) (hq) W) hS ?_
  try simp only [Act.put, z1, z2, z3]
  refine tkH (i := 6) (oi := ⟨some 169, .load 3 (.tmp 168), 3, "base.go:545", #[⟨5, .data⟩], none⟩) (v := .int .i64 (m.part n q)) (fun W h => Op1.ld_int (.tmp 168) (by kernel_rfl) (by kernel_rfl) W (by have := h.1.part n q hn8 hq; rw [Nat.zero_add] at this; exact this)) hS ?_
  try simp only [Act.put, z1, z2, z3]
  refine tkH (i := 7) (oi := ⟨some 170, .binOp .lss 3 (.tmp 169) (.const (.int .i64 0)) 3, 4, "base.go:545", #[⟨6, .data⟩], none⟩) (v := .bool (decide (m.part n q < 0))) (fun W h => Op1.lss0 (.tmp 169) (by kernel_rfl) (by kernel_rfl) (by kernel_rfl) W) hS ?_
  try simp only [Act.put, z1, z2, z3]
  refine wpAnyH_done (by kernel_rfl) ?_ _
  clear hS q0 nz
  generalize V1.drew = V2 at *
  have u1 : decide (m.part n q < 0) = true := by simpa using unhide HP
  rw [u1]
  have CI := hide (bData_any g m k V2 ((unhide N4).has (unhide HM)) ((unhide N4).hasD (unhide HM) (unhide HK)))
  generalize Img.freeData m k = fi at CI HF
  go_wp2_with fail
  refine (unhide CI).mono ?_
  rintro e wq ⟨rfl, e9⟩
  rw [e9]
  clear e9 wq
  have v1 := unhide HF
  go_wp2_with fail
  go_ret
  exact ⟨rfl, (unhide N4).after (unhide CM)⟩
set_option maxHeartbeats 4000000 in
set_option maxRecDepth 100000 in
theorem files0_chk (h : W.heap[g]? = some (.cells (cs ++ (ds ++ Sft.btl last t1 t2 t3 t4)) 48)) (kind dir toDir p : Int) (name tu text : ByteArray) (hn : name.size ≤ maxLen) (ht : tu.size ≤ maxLen) (hx : text.size ≤ maxLen) (hc : chk ⟨kind, dir, toDir, p, name, tu, text⟩ ≠ 0) :
    Calls Tryz.prog 51 #[.pointer (some ⟨g, 0, none⟩), .agg (stpA ⟨kind, dir, toDir, p, name, tu, text⟩)] W fun e w' => e = .returned (.int .i64 (chk ⟨kind, dir, toDir, p, name, tu, text⟩)) ∧ Bm W w' g (cs ++ (ds ++ Sft.btl last t1 t2 t3 t4)) := by
  have BEL := hide (show Below W.heap.size W (W.alloc (.cells (stpA ⟨kind, dir, toDir, p, name, tu, text⟩) 37)) from (Below.refl _ W).alloc (Nat.le_refl _) _)
  have C1 := hide (Idl.stepFault_any ⟨kind, dir, toDir, p, name, tu, text⟩ hn ht hx (W.alloc (.cells (stpA ⟨kind, dir, toDir, p, name, tu, text⟩) 37)))
  have M0 := hide ((Bm.start h).call (unhide BEL))
  have u1 : (chk ⟨kind, dir, toDir, p, name, tu, text⟩ != 0) = true := by simpa using hc
  generalize chk ⟨kind, dir, toDir, p, name, tu, text⟩ = cd at C1 u1
  clear hc h
  simp only [stpA] at C1
  go_enter Tryz.func51, Tryz.ntmps51
  go_wp2_with fail
  refine (unhide C1).mono ?_
  rintro e w1 ⟨rfl, b1⟩
  have B1 := hide ((unhide M0).call b1)
  clear b1
  go_wp2_with fail
  go_ret
  exact ⟨rfl, unhide B1⟩
end
end Go.Proofs.YtmbpckmpnnmnmabGreat
namespace Go.Proofs.YtmbpckmpnnmnmabGreat
open Go.RowKit
open Idl (Stp chk stpA)
namespace Img
theorem scode_codes {m k : Img} {x : Stp} (h : scode m k x ≠ 0) :
    (chk x ≠ 0 ∧ scode m k x = chk x) ∨
    (chk x = 0 ∧ x.kind = 1 ∧ 0 ≤ inoOf m x.dir x.name ∧ scode m k x = 4) ∨
    (chk x = 0 ∧ x.kind = 1 ∧ inoOf m x.dir x.name < 0 ∧ freeIno m k < 0 ∧ scode m k x = 6) ∨
    (chk x = 0 ∧ x.kind = 1 ∧ inoOf m x.dir x.name < 0 ∧ ¬ freeIno m k < 0 ∧ noPlace m k x.dir x.name = true ∧ scode m k x = 6) ∨
    (chk x = 0 ∧ x.kind ≠ 1 ∧ inoOf m x.dir x.name < 0 ∧ scode m k x = 5) ∨
    (chk x = 0 ∧ (x.kind = 2 ∨ x.kind = 4) ∧ 0 ≤ inoOf m x.dir x.name ∧ 0 ≤ inoOf m x.toDir x.to ∧ scode m k x = 4) ∨
    (chk x = 0 ∧ (x.kind = 2 ∨ x.kind = 4) ∧ 0 ≤ inoOf m x.dir x.name ∧ inoOf m x.toDir x.to < 0 ∧ noPlace m k x.toDir x.to = true ∧ scode m k x = 6) ∨
    (chk x = 0 ∧ x.kind = 5 ∧ 0 ≤ inoOf m x.dir x.name ∧ m.part (inoOf m x.dir x.name).toNat x.p.toNat < 0 ∧ freeData m k < 0 ∧ scode m k x = 6) := by
  have E : scode m k x = if scheck m x ≠ 0 then scheck m x else if sfull m k x = true then 6 else 0 := rfl
  by_cases c : chk x = 0
  · by_cases k1 : x.kind = 1
    · by_cases i : 0 ≤ inoOf m x.dir x.name
      · refine .inr (.inl ⟨c, k1, i, ?_⟩)
        rw [E]; unfold scheck; simp [c, k1, i]
      · have s0 : scheck m x = 0 := by unfold scheck; simp [c, k1, i]
        by_cases f : freeIno m k < 0
        · refine .inr (.inr (.inl ⟨c, k1, by omega, f, ?_⟩))
          rw [E, s0]; unfold sfull; simp [k1, f]
        · by_cases p : noPlace m k x.dir x.name = true
          · refine .inr (.inr (.inr (.inl ⟨c, k1, by omega, f, p, ?_⟩)))
            rw [E, s0]; unfold sfull; simp [k1, p]
          · exfalso; apply h
            rw [E, s0]; unfold sfull; simp [k1, p]; omega
    · by_cases i : inoOf m x.dir x.name < 0
      · refine .inr (.inr (.inr (.inr (.inl ⟨c, k1, i, ?_⟩))))
        rw [E]; unfold scheck; simp [c, k1, i]
      · by_cases kk : x.kind = 2 ∨ x.kind = 4
        · by_cases i2 : 0 ≤ inoOf m x.toDir x.to
          · refine .inr (.inr (.inr (.inr (.inr (.inl ⟨c, kk, by omega, i2, ?_⟩)))))
            rw [E]; unfold scheck; simp [c, k1, i, kk, i2]
          · have s0 : scheck m x = 0 := by unfold scheck; simp [c, k1, i, i2]
            by_cases p : noPlace m k x.toDir x.to = true
            · refine .inr (.inr (.inr (.inr (.inr (.inr (.inl ⟨c, kk, by omega, by omega, p, ?_⟩))))))
              rw [E, s0]; unfold sfull; simp [k1, kk, p]
            · exfalso; apply h
              rw [E, s0]; unfold sfull; simp [k1, kk, p]
        · have s0 : scheck m x = 0 := by unfold scheck; simp [c, k1, i, kk]
          by_cases k5 : x.kind = 5
          · by_cases a : m.part (inoOf m x.dir x.name).toNat x.p.toNat < 0
            · by_cases f : freeData m k < 0
              · refine .inr (.inr (.inr (.inr (.inr (.inr (.inr ⟨c, k5, by omega, a, f, ?_⟩))))))
                rw [E, s0]; unfold sfull; simp [k5, a, f]
              · exfalso; apply h
                rw [E, s0]; unfold sfull; simp [k5, f]
            · exfalso; apply h
              rw [E, s0]; unfold sfull; simp [k5, a]
          · exfalso; apply h
            rw [E, s0]; unfold sfull; simp [k1, kk, k5]
  · refine .inl ⟨c, ?_⟩
    have s0 : scheck m x = chk x := by unfold scheck; simp [c]
    rw [E, s0]; simp [c]
end Img
section
variable {w W : World} {g : Nat} {cs ds : Array Value} {m k : Img} {last : Int} {t1 t2 t3 t4 : Value}
theorem files0_code (h : W.heap[g]? = some (.cells (cs ++ (ds ++ Sft.btl last t1 t2 t3 t4)) 48)) (hm : IsImg cs m) (hk : IsImg ds k) (hG : Img.Good m last) (x : Stp) (hn : x.name.size ≤ maxLen) (ht : x.to.size ≤ maxLen) (hx : x.text.size ≤ maxLen) (hc : Img.scode m k x ≠ 0) :
    Calls Tryz.prog 51 #[.pointer (some ⟨g, 0, none⟩), .agg (stpA x)] W fun e w' => e = .returned (.int .i64 (Img.scode m k x)) ∧ Bm W w' g (cs ++ (ds ++ Sft.btl last t1 t2 t3 t4)) := by
  have hok := hG.ex.ok
  have cc := Img.scode_codes hc
  have cn := fun c => Img.chk_names (x := x) c
  obtain ⟨kind, dir, toDir, p, name, tu, text⟩ := x
  dsimp only at hn ht hx cc cn
  have pre : chk ⟨kind, dir, toDir, p, name, tu, text⟩ = 0 → ∃ d : Nat, d < 3 ∧ dir = (d : Int) ∧ name.toList.isEmpty = false := fun c => by
    obtain ⟨_, _, h1, h2, _, _⟩ := cn c
    obtain ⟨d, hd⟩ := Int.eq_ofNat_of_zero_le h1.1
    exact ⟨d, by omega, hd, Img.nm_ne h2⟩
  have pre2 : chk ⟨kind, dir, toDir, p, name, tu, text⟩ = 0 → (kind = 2 ∨ kind = 4) → ∃ d : Nat, d < 3 ∧ toDir = (d : Int) ∧ tu.toList.isEmpty = false := fun c kk => by
    obtain ⟨_, _, _, _, h1, _⟩ := cn c
    obtain ⟨h1, h2⟩ := h1 kk
    obtain ⟨d, hd⟩ := Int.eq_ofNat_of_zero_le h1.1
    exact ⟨d, by omega, hd, Img.nm_ne h2⟩
  rcases cc with ⟨c, e⟩ | ⟨c, rfl, i, e⟩ | ⟨c, rfl, i, f, e⟩ | ⟨c, rfl, i, f, np, e⟩ | ⟨c, k1, i, e⟩ | ⟨c, kk, i, i2, e⟩ | ⟨c, kk, i, i2, np, e⟩ | ⟨c, rfl, i, a, f, e⟩
  · rw [e]
    exact files0_chk h kind dir toDir p name tu text hn ht hx c
  · obtain ⟨d, hd, rfl, hne⟩ := pre c
    obtain ⟨j, n, hT⟩ := Img.there hok i
    rw [e]
    exact files0_makeThere h hm hk toDir p name tu text hn ht hx hd hne c (by rw [← Sft.findAt_in hd hne]; exact hT.at_)
  · obtain ⟨d, hd, rfl, hne⟩ := pre c
    rw [e]
    exact files0_makeIno h hm hk toDir p name tu text hn ht hx hd hne c (Sft.find_m1 hd hne ((Img.inoOf_neg hok).1 i)) f
  · obtain ⟨d, hd, rfl, hne⟩ := pre c
    obtain ⟨n, _, hn', _⟩ := Img.inoAt f
    rw [e]
    exact files0_makeRoom h hm hk toDir p name tu text hn ht hx hd hne c (Sft.find_m1 hd hne ((Img.inoOf_neg hok).1 i)) hn' np
  · obtain ⟨d, hd, rfl, hne⟩ := pre c
    rw [e]
    exact files0_none h hm hk kind toDir p name tu text hn ht hx hd hne c (Sft.find_m1 hd hne ((Img.inoOf_neg hok).1 i)) (by simpa using k1)
  · obtain ⟨d, hd, rfl, hne⟩ := pre c
    obtain ⟨dd, hdd, rfl, htne⟩ := pre2 c kk
    obtain ⟨j, n, hT⟩ := Img.there hok i
    obtain ⟨jt, nt, hT2⟩ := Img.there hok i2
    rw [e]
    rcases kk with rfl | rfl
    · exact files0_linkThere h hm hk p hdd name tu text hn ht hx hd hne c (by rw [← Sft.findAt_in hd hne]; exact hT.at_) hT.k4 hT.n8 hT.ino htne (by rw [← Sft.findAt_in hdd htne]; exact hT2.at_)
    · exact files0_renameThere h hm hk p hdd name tu text hn ht hx hd hne c (by rw [← Sft.findAt_in hd hne]; exact hT.at_) hT.k4 hT.n8 hT.ino htne (by rw [← Sft.findAt_in hdd htne]; exact hT2.at_)
  · obtain ⟨d, hd, rfl, hne⟩ := pre c
    obtain ⟨dd, hdd, rfl, htne⟩ := pre2 c kk
    obtain ⟨j, n, hT⟩ := Img.there hok i
    rw [e]
    rcases kk with rfl | rfl
    · exact files0_linkRoom h hm hk p hdd name tu text hn ht hx hd hne c (by rw [← Sft.findAt_in hd hne]; exact hT.at_) hT.k4 hT.n8 hT.ino htne (Sft.find_m1 hdd htne ((Img.inoOf_neg hok).1 i2)) np
    · exact files0_renameRoom h hm hk p hdd name tu text hn ht hx hd hne c (by rw [← Sft.findAt_in hd hne]; exact hT.at_) hT.k4 hT.n8 hT.ino htne (Sft.find_m1 hdd htne ((Img.inoOf_neg hok).1 i2)) np
  · obtain ⟨d, hd, rfl, hne⟩ := pre c
    obtain ⟨_, _, _, _, _, h5⟩ := cn c
    obtain ⟨p0, p2⟩ := h5 (.inl rfl)
    obtain ⟨q, rfl⟩ := Int.eq_ofNat_of_zero_le p0
    obtain ⟨j, n, hT⟩ := Img.there hok i
    have hof : Img.inoOf m (d : Int) name = (n : Int) := hT.of
    rw [hof] at a
    simp only [Int.toNat_natCast] at a
    rw [e]
    exact files0_putFull h hm hk toDir (by omega) name tu text hn ht hx hd hne c (by rw [← Sft.findAt_in hd hne]; exact hT.at_) hT.k4 hT.n8 hT.ino a f
theorem files0_any (h : W.heap[g]? = some (.cells (cs ++ (ds ++ Sft.btl last t1 t2 t3 t4)) 48)) (hm : IsImg cs m) (hk : IsImg ds k) (hG : Img.Good m last) (hla : last < 4611686018427387904) (x : Stp) (hn : x.name.size ≤ maxLen) (ht : x.to.size ≤ maxLen) (hx : x.text.size ≤ maxLen) :
    Calls Tryz.prog 51 #[.pointer (some ⟨g, 0, none⟩), .agg (stpA x)] W fun e w' => e = .returned (.int .i64 (Img.scode m k x)) ∧ Bd W w' g ds (Sft.btl (Img.slast m k last x) t1 t2 t3 t4) (Img.sstep m k last x) := by
  by_cases hc : Img.scode m k x = 0
  · rw [hc]
    have kc := Img.sstep_cases (last := last) hc
    obtain ⟨kind, dir, toDir, p, name, tu, text⟩ := x
    rcases kc with ⟨z, _⟩ | ⟨z, _⟩ | ⟨z, _⟩ | ⟨z, _⟩ | ⟨z, _⟩ | ⟨z, _⟩
    · have z : kind = 1 := z
      subst z
      exact files0_make h hm hk hG hla dir toDir p name tu text hn ht hx hc
    · have z : kind = 2 := z
      subst z
      exact files0_link h hm hk hG dir toDir p name tu text hn ht hx hc
    · have z : kind = 3 := z
      subst z
      exact files0_unlink h hm hk hG dir toDir p name tu text hn ht hx hc
    · have z : kind = 4 := z
      subst z
      exact files0_rename h hm hk hG dir toDir p name tu text hn ht hx hc
    · have z : kind = 5 := z
      subst z
      exact files0_put h hm hk hG dir toDir p name tu text hn ht hx hc
    · have z : kind = 6 := z
      subst z
      exact files0_cut h hm hk hG dir toDir p name tu text hn ht hx hc
  · have e1 : Img.sstep m k last x = m := if_pos hc
    have e2 : Img.slast m k last x = last := if_neg (fun z => hc z.1)
    rw [e1, e2]
    refine (files0_code h hm hk hG x hn ht hx hc).mono ?_
    rintro e w' ⟨rfl, hb⟩
    exact ⟨rfl, cs, hb, hm⟩
end
end Go.Proofs.YtmbpckmpnnmnmabGreat
