/-
  (*Bed).Files0: put, cut. (Written by genfa.py.)
-/
import Derived.Test.YtmbpckmpnnmnmacGreatZz
import Derived.Test.YtmbpckmpnnmnmacGreatXbh
namespace Go.Proofs.YtmbpckmpnnmnmacGreat
open Go.RowKit
open Idl (Stp chk stpA)
section
variable {w W : World} {g : Nat} {cs ds : Array Value} {m k : Img} {last : Int} {t1 t2 t3 t4 : Value}
set_option maxHeartbeats 4000000 in
set_option maxRecDepth 100000 in
theorem files0_put (h : W.heap[g]? = some (.cells (cs ++ (ds ++ Sft.btl last t1 t2 t3 t4)) 55)) (hm : IsImg cs m) (hk : IsImg ds k) (hG : Img.Good m last) (dir toDir p : Int) (name tu text : ByteArray) (hn : name.size ≤ maxLen) (ht : tu.size ≤ maxLen) (hx : text.size ≤ maxLen) (hc : Img.scode m k ⟨5, dir, toDir, p, name, tu, text⟩ = 0) :
    Calls Tryz.prog 44 #[.pointer (some ⟨g, 0, none⟩), .agg (stpA ⟨5, dir, toDir, p, name, tu, text⟩)] W fun e w' => e = .returned (.int .i64 0) ∧ Bd W w' g ds (Sft.btl (Img.slast m k last ⟨5, dir, toDir, p, name, tu, text⟩) t1 t2 t3 t4) (Img.sstep m k last ⟨5, dir, toDir, p, name, tu, text⟩) := by
  have tk := Img.take hc
  have hst : Img.sstep m k last ⟨5, dir, toDir, p, name, tu, text⟩ = Img.putPart m k (Img.inoOf m dir name).toNat p.toNat text := by
    rcases Img.sstep_cases (last := last) hc with ⟨z, e⟩ | ⟨z, e⟩ | ⟨z, e⟩ | ⟨z, e⟩ | ⟨z, e⟩ | ⟨z, e⟩
    all_goals first | exact e | (exfalso; revert z; decide) | (simp at z)
  have hsl : Img.slast m k last ⟨5, dir, toDir, p, name, tu, text⟩ = last := by unfold Img.slast; first | rw [if_pos ⟨hc, rfl⟩] | rw [if_neg (fun z => by have := z.2; simp at this)]
  rw [hst, hsl]
  clear hst hsl
  have hne := Img.nm_ne tk.name
  have d0' : 0 ≤ dir := tk.dir.1
  have d3' : dir < 3 := tk.dir.2
  obtain ⟨d, rfl⟩ := Int.eq_ofNat_of_zero_le d0'
  have hd3 : d < 3 := by omega
  have hck := tk.chk
  obtain ⟨q0, q2⟩ := tk.part (.inl rfl)
  have q0 : 0 ≤ p := q0
  have q2 : p < 2 := q2
  obtain ⟨q, rfl⟩ := Int.eq_ofNat_of_zero_le q0
  have hq : q < 2 := by omega
  clear q0 q2
  obtain ⟨j, n, hT⟩ := Img.there hG.ex.ok (tk.old (by simp))
  simp only [Int.toNat_natCast]
  rw [show (Img.inoOf m (d : Int) name).toNat = n by rw [show Img.inoOf m (d : Int) name = (n : Int) from hT.of]; rfl]
  have hdat := tk.data rfl
  rw [show Img.inoOf m (d : Int) name = (n : Int) from hT.of] at hdat
  simp only [Int.toNat_natCast] at hdat
  obtain ⟨x, hx9, hxc⟩ := Sft.put_at hG.ex.ok hT hq hdat
  have hfd : m.find d name.toList = (j : Int) := by rw [← Sft.findAt_in hd3 hne]; exact hT.at_
  have hj4 := hT.k4
  have hn8 := hT.n8
  have hino : m.ino d j = (n : Int) := hT.ino
  have HI := hide hino
  have jn : decide ((j : Int) < 0) = false := by simp
  have nz : (n : Int) < 8 := by omega
  clear hc tk hT d0' d3' hG hino hdat
  have BEL := hide (show Below W.heap.size W (W.alloc (.cells (stpA ⟨5, (d : Int), toDir, (q : Int), name, tu, text⟩) 31)) from (Below.refl _ W).alloc (Nat.le_refl _) _)
  have C1 := hide (Idl.stepFault_any ⟨5, (d : Int), toDir, (q : Int), name, tu, text⟩ hn ht hx (W.alloc (.cells (stpA ⟨5, (d : Int), toDir, (q : Int), name, tu, text⟩) 31)))
  rw [hck] at C1
  have HC := hide fun W' bW => stp_box W ⟨5, (d : Int), toDir, (q : Int), name, tu, text⟩ W' bW
  have M0 := hide ((Bm.start h).call (unhide BEL))
  have GN := hide (show W.heap.size ≠ g from by have := (Array.getElem?_eq_some_iff.1 h).1; omega)
  have RX := hide (heap_alloc_last W (.cells (stpA ⟨5, (d : Int), toDir, (q : Int), name, tu, text⟩) 31))
  have HM := hide hm
  have HK := hide hk
  have HFD := hide hfd
  clear h hck hfd hm hk
  simp only [stpA] at C1
  go_enter Tryz.func44, Tryz.ntmps44
  go_wp2_with fail
  refine (unhide C1).mono ?_
  rintro e w1 ⟨rfl, b1⟩
  have M1 := hide ((unhide M0).call b1)
  have HD := hide (b1.trans ((Below.refl w1.heap.size w1).drew.mono b1.size))
  have M2 := hide ((unhide M1).call (Below.refl w1.heap.size w1).drew)
  clear b1 C1 M0 M1
  generalize W.heap.size = gx at *
  go_wp2_with fail
  refine wp_region_held_drew (S := fun W' => HasAt W' g 0 m ∧ W'.cell? ⟨gx, 1, none⟩ = some (.int .i64 (d : Int)) ∧ W'.cell? ⟨gx, 4, none⟩ = some (.string name)) (by kernel_rfl) (⟨(unhide M2).has (unhide HM), unhide HC _ (unhide HD) 1 _ rfl, unhide HC _ (unhide HD) 4 _ rfl⟩) (fun hS => ?_)
  refine tkP (i := 0) (oi := ⟨some 16, .move (.tmp 0), 27, "base.go:507", #[], none⟩) (v := .pointer (some ⟨g, 0, none⟩)) hS ?_
  try simp only [Act.put, z1, z2, z3]
  refine tkP (i := 1) (oi := ⟨some 17, .nilCheck (.tmp 16), 0, "base.go:507", #[⟨0, .data⟩], none⟩) (v := .pointer (some ⟨g, 0, none⟩)) hS ?_
  try simp only [Act.put, z1, z2, z3]
  refine tkP (i := 2) (oi := ⟨some 18, .fieldAddr 55 (.tmp 17) 0, 0, "base.go:507", #[⟨1, .data⟩], none⟩) (v := .pointer (some ⟨g, 0, none⟩)) hS ?_
  try simp only [Act.put, z1, z2, z3]
  refine tkP (i := 3) (oi := ⟨some 19, .fieldAddr 31 (.tmp 3) 1, 0, "base.go:507", #[], none⟩) (v := .pointer (some ⟨gx, 1, none⟩)) hS ?_
  try simp only [Act.put, z1, z2, z3]
  refine tkH (i := 4) (oi := ⟨some 20, .load 3 (.tmp 19), 3, "base.go:507", #[⟨3, .data⟩], none⟩) (v := .int .i64 (d : Int)) (fun W h => Op1.ld_int (.tmp 19) (by kernel_rfl) (by kernel_rfl) W (h.2.1)) hS ?_
  try simp only [Act.put, z1, z2, z3]
  refine tkP (i := 5) (oi := ⟨some 21, .fieldAddr 31 (.tmp 3) 4, 0, "base.go:507", #[], none⟩) (v := .pointer (some ⟨gx, 4, none⟩)) hS ?_
  try simp only [Act.put, z1, z2, z3]
  refine tkH (i := 6) (oi := ⟨some 22, .load 9 (.tmp 21), 9, "base.go:507", #[⟨5, .data⟩], none⟩) (v := .string name) (fun W h => Op1.ld_str (.tmp 21) (by kernel_rfl) (by kernel_rfl) W (h.2.2)) hS ?_
  try simp only [Act.put, z1, z2, z3]
  refine wpAnyH_ready (rs := [7]) (by kernel_rfl) (by simp) ?_
  refine AllReadyH.cons (o := ⟨some 23, .call { callee := .value (.func 53), args := #[.tmp 18, .tmp 20, .tmp 22], argTypes := #[64, 3, 9] }, 3, "base.go:507", #[⟨2, .data⟩, ⟨4, .data⟩, ⟨6, .data⟩], none⟩) rfl (fun K hK => ?_) AllReadyH.nil
  rw [if_pos (by kernel_rfl)]
  go_simp
  refine (rSlotOf_in g m d hd3 name hne _ ((unhide M2).has (unhide HM))).mono ?_
  rintro e w2 ⟨rfl, e9⟩
  rw [e9]
  clear e9 w2
  rw [unhide HFD]
  go_wp2_with fail
  refine hK.out _ _ (hS) (fun hS2 => ?_)
  clear hK K
  try simp only [Act.put, z1, z2, z3]
  refine tkP (i := 8) (oi := ⟨some 6, .assign (.tmp 23), 3, "base.go:507", #[⟨7, .data⟩, ⟨7, .chain⟩, ⟨0, .phase⟩, ⟨1, .phase⟩, ⟨2, .phase⟩, ⟨3, .phase⟩, ⟨4, .phase⟩, ⟨5, .phase⟩, ⟨6, .phase⟩, ⟨7, .phase⟩], none⟩) (v := .int .i64 ((j : Int))) hS2 ?_
  try simp only [Act.put, z1, z2, z3]
  refine wpAnyH_done (by kernel_rfl) ?_ _
  clear hS hS2
  have RV : w1.drew.heap[gx]? = some (.cells (stpA ⟨5, (d : Int), toDir, (q : Int), name, tu, text⟩) 31) := by
    rw [(unhide HD).block gx (Array.getElem?_eq_some_iff.1 (unhide RX)).1]; exact unhide RX
  have hgl : gx < w1.drew.heap.size := (Array.getElem?_eq_some_iff.1 RV).1
  have QB := hide (show ∀ (W' : World) (rows : Array Value), Bm w1.drew W' g rows → ∀ j u, (stpA ⟨5, (d : Int), toDir, (q : Int), name, tu, text⟩)[j]? = some u → W'.cell? ⟨gx, j, none⟩ = some u from fun W' rows N j u hj => by rw [cell_of_row _ _ _ _ _ _ ((N.chg.block gx hgl (unhide GN)).trans RV)]; exact hj)
  have N2 := hide (Bm.start (unhide M2).row)
  have CM := hide (unhide M2).chg
  clear RV hgl HC HD M2 BEL RX HFD GN
  generalize w1.drew = V at *
  have q0 := unhide QB _ _ (unhide N2) 0 _ rfl
  have N3 := hide ((unhide N2).call (Below.refl _ _).drew)
  go_wp2_with fail
  refine wp_region_held_drew (S := fun W' => HasAt W' g 0 m ∧ W'.cell? ⟨gx, 1, none⟩ = some (.int .i64 (d : Int))) (by kernel_rfl) (⟨(unhide N3).has (unhide HM), unhide QB _ _ (unhide N3) 1 _ rfl⟩) (fun hS => ?_)
  refine tkP (i := 0) (oi := ⟨some 83, .move (.tmp 0), 27, "base.go:526", #[], none⟩) (v := .pointer (some ⟨g, 0, none⟩)) hS ?_
  try simp only [Act.put, z1, z2, z3]
  refine tkP (i := 1) (oi := ⟨some 84, .fieldAddr 31 (.tmp 3) 1, 0, "base.go:526", #[], none⟩) (v := .pointer (some ⟨gx, 1, none⟩)) hS ?_
  try simp only [Act.put, z1, z2, z3]
  refine tkH (i := 2) (oi := ⟨some 85, .load 3 (.tmp 84), 3, "base.go:526", #[⟨1, .data⟩], none⟩) (v := .int .i64 (d : Int)) (fun W h => Op1.ld_int (.tmp 84) (by kernel_rfl) (by kernel_rfl) W (h.2)) hS ?_
  try simp only [Act.put, z1, z2, z3]
  refine tkP (i := 3) (oi := ⟨some 86, .move (.tmp 6), 3, "base.go:526", #[], none⟩) (v := .int .i64 (j : Int)) hS ?_
  try simp only [Act.put, z1, z2, z3]
  refine tkP (i := 4) (oi := ⟨some 87, .nilCheck (.tmp 83), 0, "base.go:526", #[⟨0, .data⟩], none⟩) (v := .pointer (some ⟨g, 0, none⟩)) hS ?_
  try simp only [Act.put, z1, z2, z3]
  refine tkP (i := 5) (oi := ⟨some 88, .fieldAddr 55 (.tmp 87) 0, 0, "base.go:526", #[⟨4, .data⟩], none⟩) (v := .pointer (some ⟨g, 0, none⟩)) hS ?_
  try simp only [Act.put, z1, z2, z3]
  refine tkP (i := 6) (oi := ⟨some 89, .fieldAddr 44 (.tmp 88) 1, 0, "base.go:526", #[⟨5, .data⟩], none⟩) (v := .pointer (some ⟨g, 40, none⟩)) hS ?_
  try simp only [Act.put, z1, z2, z3]
  refine tkH (i := 7) (oi := ⟨some 90, .indexAddr 39 (.tmp 89) (.tmp 85), 0, "base.go:526", #[⟨6, .data⟩, ⟨2, .data⟩], none⟩) (v := .pointer (some ⟨g, 40 + d * 12, none⟩)) (fun W h => Op1.ix_dir (.tmp 89) (.tmp 85) (by kernel_rfl) (by kernel_rfl) (by kernel_rfl) (hd3) W) hS ?_
  try simp only [Act.put, z1, z2, z3]
  refine tkH (i := 8) (oi := ⟨some 91, .indexAddr 38 (.tmp 90) (.tmp 86), 0, "base.go:526", #[⟨7, .data⟩, ⟨3, .data⟩], none⟩) (v := .pointer (some ⟨g, 40 + d * 12 + j * 3, none⟩)) (fun W h => Op1.ix_slot (.tmp 90) (.tmp 86) (by kernel_rfl) (by kernel_rfl) (by kernel_rfl) (hj4) W) hS ?_
  try simp only [Act.put, z1, z2, z3]
  refine tkP (i := 9) (oi := ⟨some 92, .fieldAddr 37 (.tmp 91) 1, 0, "base.go:526", #[⟨8, .data⟩], none⟩) (v := .pointer (some ⟨g, 40 + d * 12 + j * 3 + 1, none⟩)) hS ?_
  try simp only [Act.put, z1, z2, z3]
  refine tkH (i := 10) (oi := ⟨some 93, .load 3 (.tmp 92), 3, "base.go:526", #[⟨9, .data⟩], none⟩) (v := .int .i64 (n : Int)) (fun W h => Op1.ld_int (.tmp 92) (by kernel_rfl) (by kernel_rfl) W (by have := h.1.ino d j hd3 hj4; rw [unhide HI, Nat.zero_add] at this; exact this)) hS ?_
  try simp only [Act.put, z1, z2, z3]
  refine tkP (i := 11) (oi := ⟨some 8, .assign (.tmp 93), 3, "base.go:526", #[⟨10, .data⟩, ⟨0, .phase⟩, ⟨1, .phase⟩, ⟨2, .phase⟩, ⟨3, .phase⟩, ⟨4, .phase⟩, ⟨5, .phase⟩, ⟨6, .phase⟩, ⟨7, .phase⟩, ⟨8, .phase⟩, ⟨9, .phase⟩, ⟨10, .phase⟩], none⟩) (v := .int .i64 (n : Int)) hS ?_
  try simp only [Act.put, z1, z2, z3]
  refine wpAnyH_done (by kernel_rfl) ?_ _
  clear hS q0 N2 jn
  generalize V.drew = V1 at *
  have q0 := unhide QB _ _ (unhide N3) 0 _ rfl
  have N4 := hide ((unhide N3).call (Below.refl _ _).drew)
  go_wp2_with fail
  refine wp_region_held_drew (S := fun W' => HasAt W' g 0 m ∧ W'.cell? ⟨gx, 3, none⟩ = some (.int .i64 (q : Int))) (by kernel_rfl) (⟨(unhide N4).has (unhide HM), unhide QB _ _ (unhide N4) 3 _ rfl⟩) (fun hS => ?_)
  refine tkP (i := 0) (oi := ⟨some 163, .move (.tmp 9), 100, "base.go:545", #[], none⟩) (v := .pointer (some ⟨g, n * 5, none⟩)) hS ?_
  try simp only [Act.put, z1, z2, z3]
  refine tkP (i := 1) (oi := ⟨some 164, .fieldAddr 31 (.tmp 3) 3, 0, "base.go:545", #[], none⟩) (v := .pointer (some ⟨gx, 3, none⟩)) hS ?_
  try simp only [Act.put, z1, z2, z3]
  refine tkH (i := 2) (oi := ⟨some 165, .load 3 (.tmp 164), 3, "base.go:545", #[⟨1, .data⟩], none⟩) (v := .int .i64 (q : Int)) (fun W h => Op1.ld_int (.tmp 164) (by kernel_rfl) (by kernel_rfl) W (h.2)) hS ?_
  try simp only [Act.put, z1, z2, z3]
  refine tkP (i := 3) (oi := ⟨some 166, .nilCheck (.tmp 163), 0, "base.go:545", #[⟨0, .data⟩], none⟩) (v := .pointer (some ⟨g, n * 5, none⟩)) hS ?_
  try simp only [Act.put, z1, z2, z3]
  refine tkP (i := 4) (oi := ⟨some 167, .fieldAddr 34 (.tmp 166) 3, 0, "base.go:545", #[⟨3, .data⟩], none⟩) (v := .pointer (some ⟨g, n * 5 + 3, none⟩)) hS ?_
  try simp only [Act.put, z1, z2, z3]
  refine tkH (i := 5) (oi := ⟨some 168, .indexAddr 32 (.tmp 167) (.tmp 165), 0, "base.go:545", #[⟨4, .data⟩, ⟨2, .data⟩], none⟩) (v := .pointer (some ⟨g, n * 5 + 3 + q, none⟩)) (fun W h => Op1.ix_part (.tmp 167) (.tmp 165) (by kernel_rfl) (by kernel_rfl) (by kernel_rfl) (hq) W) hS ?_
  try simp only [Act.put, z1, z2, z3]
  refine tkH (i := 6) (oi := ⟨some 169, .load 3 (.tmp 168), 3, "base.go:545", #[⟨5, .data⟩], none⟩) (v := .int .i64 (m.part n q)) (fun W h => Op1.ld_int (.tmp 168) (by kernel_rfl) (by kernel_rfl) W (by have := h.1.part n q hn8 hq; rw [Nat.zero_add] at this; exact this)) hS ?_
  try simp only [Act.put, z1, z2, z3]
  refine tkH (i := 7) (oi := ⟨some 170, .binOp .lss 3 (.tmp 169) (.const (.int .i64 0)) 3, 4, "base.go:545", #[⟨6, .data⟩], none⟩) (v := .bool (decide (m.part n q < 0))) (fun W h => Op1.lss0 (.tmp 169) (by kernel_rfl) (by kernel_rfl) (by kernel_rfl) W) hS ?_
  try simp only [Act.put, z1, z2, z3]
  refine wpAnyH_done (by kernel_rfl) ?_ _
  clear hS q0 nz
  generalize V1.drew = V2 at *
  rcases hxc with ⟨hneg, he⟩ | hpos
  · have u1 : decide (m.part n q < 0) = true := by simpa using hneg
    have FIN := hide (show Img.putPart m k n q text = (m.setPart n q (x : Int)).putData x ((m.setPart n q (x : Int)).stamp n) text by
      unfold Img.putPart
      simp only [if_pos hneg, he]
      rw [Img.setPart_at hq, Int.toNat_natCast])
    have CI := hide (bData_any g m k V2 ((unhide N4).has (unhide HM)) ((unhide N4).hasD (unhide HM) (unhide HK)))
    rw [he] at CI
    have HP := hide (Img.setPart_at (now := m) (n := n) hq (x : Int))
    have xn : decide ((x : Int) < 0) = false := by simp
    rw [u1]
    clear hneg he
    go_wp2_with fail
    refine (unhide CI).mono ?_
    rintro e wq ⟨rfl, e9⟩
    rw [e9]
    clear e9 wq CI
    have N5 := hide ((unhide N4).call (Below.refl _ _).drew)
    go_wp2_with fail
    refine wp_region_F (S := fun W' => HasAt W' g 0 m ∧ W'.cell? ⟨gx, 3, none⟩ = some (.int .i64 (q : Int))) 7 (by kernel_rfl) (⟨(unhide N5).has (unhide HM), unhide QB _ _ (unhide N5) 3 _ rfl⟩) (fun hS => ?_)
    refine wpAnyF_take (i := 0) (oi := ⟨some 175, .move (.tmp 9), 100, "base.go:550", #[], none⟩) (v := .pointer (some ⟨g, n * 5, none⟩)) rfl (by kernel_rfl) (by kernel_rfl) (by kernel_rfl) (by kernel_rfl) (fun _ _ _ h => h) (Or.inl ⟨by kernel_rfl, fun W h => (by first | kernel_rfl | go_simp)⟩) hS ?_
    try simp only [Act.put, z1, z2, z3]
    refine wpAnyF_take (i := 1) (oi := ⟨some 176, .fieldAddr 31 (.tmp 3) 3, 0, "base.go:550", #[], none⟩) (v := .pointer (some ⟨gx, 3, none⟩)) rfl (by kernel_rfl) (by kernel_rfl) (by kernel_rfl) (by kernel_rfl) (fun _ _ _ h => h) (Or.inl ⟨by kernel_rfl, fun W h => (by first | kernel_rfl | go_simp)⟩) hS ?_
    try simp only [Act.put, z1, z2, z3]
    refine wpAnyF_take (i := 2) (oi := ⟨some 177, .load 3 (.tmp 176), 3, "base.go:550", #[⟨1, .data⟩], none⟩) (v := .int .i64 (q : Int)) rfl (by kernel_rfl) (by kernel_rfl) (by kernel_rfl) (by kernel_rfl) (fun _ _ _ h => h) (Or.inl ⟨by kernel_rfl, fun W h => Op1.ld_int (.tmp 176) (by kernel_rfl) (by kernel_rfl) W (h.2)⟩) hS ?_
    try simp only [Act.put, z1, z2, z3]
    refine wpAnyF_take (i := 3) (oi := ⟨some 178, .move (.tmp 10), 3, "base.go:550", #[], none⟩) (v := .int .i64 (x : Int)) rfl (by kernel_rfl) (by kernel_rfl) (by kernel_rfl) (by kernel_rfl) (fun _ _ _ h => h) (Or.inl ⟨by kernel_rfl, fun W h => (by first | kernel_rfl | go_simp)⟩) hS ?_
    try simp only [Act.put, z1, z2, z3]
    refine wpAnyF_free (i := 4) (oi := ⟨some 179, .nilCheck (.tmp 175), 0, "base.go:550", #[⟨0, .data⟩], none⟩) (v := .pointer (some ⟨g, n * 5, none⟩)) rfl (by kernel_rfl) (by kernel_rfl) (by kernel_rfl) (by kernel_rfl) (fun _ _ _ h => h) (Or.inl ⟨by kernel_rfl, fun W _ => (by first | kernel_rfl | go_simp)⟩) hS ?_
    try simp only [Act.put, z1, z2, z3]
    refine wpAnyF_free (i := 5) (oi := ⟨some 180, .fieldAddr 34 (.tmp 179) 3, 0, "base.go:550", #[⟨4, .data⟩], none⟩) (v := .pointer (some ⟨g, n * 5 + 3, none⟩)) rfl (by kernel_rfl) (by kernel_rfl) (by kernel_rfl) (by kernel_rfl) (fun _ _ _ h => h) (Or.inl ⟨by kernel_rfl, fun W _ => (by first | kernel_rfl | go_simp)⟩) hS ?_
    try simp only [Act.put, z1, z2, z3]
    refine wpAnyF_take (i := 6) (oi := ⟨some 181, .indexAddr 32 (.tmp 180) (.tmp 177), 0, "base.go:550", #[⟨5, .data⟩, ⟨2, .data⟩, ⟨0, .phase⟩, ⟨1, .phase⟩, ⟨2, .phase⟩, ⟨3, .phase⟩], none⟩) (v := .pointer (some ⟨g, n * 5 + 3 + q, none⟩)) rfl (by kernel_rfl) (by kernel_rfl) (by kernel_rfl) (by kernel_rfl) (fun _ _ _ h => h) (Or.inl ⟨by kernel_rfl, fun W h => Op1.ix_part (.tmp 180) (.tmp 177) (by kernel_rfl) (by kernel_rfl) (by kernel_rfl) (hq) W⟩) hS ?_
    try simp only [Act.put, z1, z2, z3]
    refine wpAnyF_last (o := ⟨none, .store 3 (.tmp 181) (.tmp 178), 0, "base.go:550", #[⟨6, .data⟩, ⟨3, .data⟩, ⟨0, .phase⟩, ⟨1, .phase⟩, ⟨2, .phase⟩, ⟨3, .phase⟩], none⟩) (by kernel_rfl) rfl (by kernel_rfl) (by kernel_rfl) (fun K hK => ?_)
    refine Op1.st_int (.tmp 181) (.tmp 178) (by kernel_rfl) rfl (g := g) (o0 := n * 5 + 3 + q) (v := (x : Int)) (by kernel_rfl) (by kernel_rfl) (u := .int .i64 (m.part n q)) (by have := hS.1.part n q hn8 hq; rw [Nat.zero_add] at this; exact this) ((unhide N5).frozen _) ?_
    refine hK.out _ _ ?_
    clear hK K
    try simp only [Act.put, z1, z2, z3]
    refine wpAnyF_done (by kernel_rfl) ?_ _
    obtain ⟨cs6, n6, hm6⟩ := Bd.part (unhide N5) (unhide HM) hn8 hq (x : Int)
    have N6 := hide n6
    have HM6 := hide hm6
    clear n6 hm6 hS u1 xn
    generalize V2.drew.setCell ⟨g, n * 5 + 3 + q, none⟩ (.int .i64 (x : Int)) = W6 at N6 ⊢
    generalize m.setPart n q (x : Int) = m6 at HM6 HP FIN
    have S1 := hide ((unhide N6).call (Below.refl _ _).drew)
    go_wp2_with fail
    refine wp_region_F (S := fun W' => HasAt W' g 0 m6 ∧ W'.cell? ⟨gx, 3, none⟩ = some (.int .i64 (q : Int)) ∧ W'.cell? ⟨gx, 6, none⟩ = some (.string text)) 19 (by kernel_rfl) (⟨(unhide S1).has (unhide HM6), unhide QB _ _ (unhide S1) 3 _ rfl, unhide QB _ _ (unhide S1) 6 _ rfl⟩) (fun hS => ?_)
    refine wpAnyF_take (i := 0) (oi := ⟨some 182, .move (.tmp 0), 27, "base.go:552", #[], none⟩) (v := .pointer (some ⟨g, 0, none⟩)) rfl (by kernel_rfl) (by kernel_rfl) (by kernel_rfl) (by kernel_rfl) (fun _ _ _ h => h) (Or.inl ⟨by kernel_rfl, fun W h => (by first | kernel_rfl | go_simp)⟩) hS ?_
    try simp only [Act.put, z1, z2, z3]
    refine wpAnyF_take (i := 1) (oi := ⟨some 183, .move (.tmp 9), 100, "base.go:552", #[], none⟩) (v := .pointer (some ⟨g, n * 5, none⟩)) rfl (by kernel_rfl) (by kernel_rfl) (by kernel_rfl) (by kernel_rfl) (fun _ _ _ h => h) (Or.inl ⟨by kernel_rfl, fun W h => (by first | kernel_rfl | go_simp)⟩) hS ?_
    try simp only [Act.put, z1, z2, z3]
    refine wpAnyF_take (i := 2) (oi := ⟨some 184, .fieldAddr 31 (.tmp 3) 3, 0, "base.go:552", #[], none⟩) (v := .pointer (some ⟨gx, 3, none⟩)) rfl (by kernel_rfl) (by kernel_rfl) (by kernel_rfl) (by kernel_rfl) (fun _ _ _ h => h) (Or.inl ⟨by kernel_rfl, fun W h => (by first | kernel_rfl | go_simp)⟩) hS ?_
    try simp only [Act.put, z1, z2, z3]
    refine wpAnyF_take (i := 3) (oi := ⟨some 185, .load 3 (.tmp 184), 3, "base.go:552", #[⟨2, .data⟩], none⟩) (v := .int .i64 (q : Int)) rfl (by kernel_rfl) (by kernel_rfl) (by kernel_rfl) (by kernel_rfl) (fun _ _ _ h => h) (Or.inl ⟨by kernel_rfl, fun W h => Op1.ld_int (.tmp 184) (by kernel_rfl) (by kernel_rfl) W (h.2.1)⟩) hS ?_
    try simp only [Act.put, z1, z2, z3]
    refine wpAnyF_take (i := 4) (oi := ⟨some 186, .nilCheck (.tmp 183), 0, "base.go:552", #[⟨1, .data⟩], none⟩) (v := .pointer (some ⟨g, n * 5, none⟩)) rfl (by kernel_rfl) (by kernel_rfl) (by kernel_rfl) (by kernel_rfl) (fun _ _ _ h => h) (Or.inl ⟨by kernel_rfl, fun W h => (by first | kernel_rfl | go_simp)⟩) hS ?_
    try simp only [Act.put, z1, z2, z3]
    refine wpAnyF_take (i := 5) (oi := ⟨some 187, .fieldAddr 34 (.tmp 186) 3, 0, "base.go:552", #[⟨4, .data⟩], none⟩) (v := .pointer (some ⟨g, n * 5 + 3, none⟩)) rfl (by kernel_rfl) (by kernel_rfl) (by kernel_rfl) (by kernel_rfl) (fun _ _ _ h => h) (Or.inl ⟨by kernel_rfl, fun W h => (by first | kernel_rfl | go_simp)⟩) hS ?_
    try simp only [Act.put, z1, z2, z3]
    refine wpAnyF_take (i := 6) (oi := ⟨some 188, .indexAddr 32 (.tmp 187) (.tmp 185), 0, "base.go:552", #[⟨5, .data⟩, ⟨3, .data⟩], none⟩) (v := .pointer (some ⟨g, n * 5 + 3 + q, none⟩)) rfl (by kernel_rfl) (by kernel_rfl) (by kernel_rfl) (by kernel_rfl) (fun _ _ _ h => h) (Or.inl ⟨by kernel_rfl, fun W h => Op1.ix_part (.tmp 187) (.tmp 185) (by kernel_rfl) (by kernel_rfl) (by kernel_rfl) (hq) W⟩) hS ?_
    try simp only [Act.put, z1, z2, z3]
    refine wpAnyF_take (i := 7) (oi := ⟨some 189, .load 3 (.tmp 188), 3, "base.go:552", #[⟨6, .data⟩], none⟩) (v := .int .i64 (x : Int)) rfl (by kernel_rfl) (by kernel_rfl) (by kernel_rfl) (by kernel_rfl) (fun _ _ _ h => h) (Or.inl ⟨by kernel_rfl, fun W h => Op1.ld_int (.tmp 188) (by kernel_rfl) (by kernel_rfl) W (by have := h.1.part n q hn8 hq; rw [unhide HP, Nat.zero_add] at this; exact this)⟩) hS ?_
    try simp only [Act.put, z1, z2, z3]
    refine wpAnyF_take (i := 8) (oi := ⟨some 190, .move (.tmp 9), 100, "base.go:552", #[], none⟩) (v := .pointer (some ⟨g, n * 5, none⟩)) rfl (by kernel_rfl) (by kernel_rfl) (by kernel_rfl) (by kernel_rfl) (fun _ _ _ h => h) (Or.inl ⟨by kernel_rfl, fun W h => (by first | kernel_rfl | go_simp)⟩) hS ?_
    try simp only [Act.put, z1, z2, z3]
    refine wpAnyF_take (i := 9) (oi := ⟨some 191, .nilCheck (.tmp 190), 0, "base.go:552", #[⟨8, .data⟩], none⟩) (v := .pointer (some ⟨g, n * 5, none⟩)) rfl (by kernel_rfl) (by kernel_rfl) (by kernel_rfl) (by kernel_rfl) (fun _ _ _ h => h) (Or.inl ⟨by kernel_rfl, fun W h => (by first | kernel_rfl | go_simp)⟩) hS ?_
    try simp only [Act.put, z1, z2, z3]
    refine wpAnyF_take (i := 10) (oi := ⟨some 192, .fieldAddr 34 (.tmp 191) 1, 0, "base.go:552", #[⟨9, .data⟩], none⟩) (v := .pointer (some ⟨g, n * 5 + 1, none⟩)) rfl (by kernel_rfl) (by kernel_rfl) (by kernel_rfl) (by kernel_rfl) (fun _ _ _ h => h) (Or.inl ⟨by kernel_rfl, fun W h => (by first | kernel_rfl | go_simp)⟩) hS ?_
    try simp only [Act.put, z1, z2, z3]
    refine wpAnyF_take (i := 11) (oi := ⟨some 193, .load 3 (.tmp 192), 3, "base.go:552", #[⟨10, .data⟩], none⟩) (v := .int .i64 (m6.stamp n)) rfl (by kernel_rfl) (by kernel_rfl) (by kernel_rfl) (by kernel_rfl) (fun _ _ _ h => h) (Or.inl ⟨by kernel_rfl, fun W h => Op1.ld_int (.tmp 192) (by kernel_rfl) (by kernel_rfl) W (by have := h.1.stamp n hn8; rw [Nat.zero_add] at this; exact this)⟩) hS ?_
    try simp only [Act.put, z1, z2, z3]
    refine wpAnyF_take (i := 12) (oi := ⟨some 194, .fieldAddr 31 (.tmp 3) 6, 0, "base.go:552", #[], none⟩) (v := .pointer (some ⟨gx, 6, none⟩)) rfl (by kernel_rfl) (by kernel_rfl) (by kernel_rfl) (by kernel_rfl) (fun _ _ _ h => h) (Or.inl ⟨by kernel_rfl, fun W h => (by first | kernel_rfl | go_simp)⟩) hS ?_
    try simp only [Act.put, z1, z2, z3]
    refine wpAnyF_take (i := 13) (oi := ⟨some 195, .load 9 (.tmp 194), 9, "base.go:552", #[⟨12, .data⟩], none⟩) (v := .string text) rfl (by kernel_rfl) (by kernel_rfl) (by kernel_rfl) (by kernel_rfl) (fun _ _ _ h => h) (Or.inl ⟨by kernel_rfl, fun W h => Op1.ld_str (.tmp 194) (by kernel_rfl) (by kernel_rfl) W (h.2.2)⟩) hS ?_
    try simp only [Act.put, z1, z2, z3]
    refine wpAnyF_take (i := 14) (oi := ⟨some 196, .build 41 #[(0, .tmp 193), (1, .tmp 195)], 41, "base.go:552", #[⟨11, .data⟩, ⟨13, .data⟩], none⟩) (v := .agg #[.int .i64 (m6.stamp n), .string text]) rfl (by kernel_rfl) (by kernel_rfl) (by kernel_rfl) (by kernel_rfl) (fun _ _ _ h => h) (Or.inl ⟨by kernel_rfl, fun W h => (by first | kernel_rfl | go_simp)⟩) hS ?_
    try simp only [Act.put, z1, z2, z3]
    refine wpAnyF_free (i := 15) (oi := ⟨some 197, .nilCheck (.tmp 182), 0, "base.go:552", #[⟨0, .data⟩], none⟩) (v := .pointer (some ⟨g, 0, none⟩)) rfl (by kernel_rfl) (by kernel_rfl) (by kernel_rfl) (by kernel_rfl) (fun _ _ _ h => h) (Or.inl ⟨by kernel_rfl, fun W _ => (by first | kernel_rfl | go_simp)⟩) hS ?_
    try simp only [Act.put, z1, z2, z3]
    refine wpAnyF_free (i := 16) (oi := ⟨some 198, .fieldAddr 55 (.tmp 197) 0, 0, "base.go:552", #[⟨15, .data⟩], none⟩) (v := .pointer (some ⟨g, 0, none⟩)) rfl (by kernel_rfl) (by kernel_rfl) (by kernel_rfl) (by kernel_rfl) (fun _ _ _ h => h) (Or.inl ⟨by kernel_rfl, fun W _ => (by first | kernel_rfl | go_simp)⟩) hS ?_
    try simp only [Act.put, z1, z2, z3]
    refine wpAnyF_free (i := 17) (oi := ⟨some 199, .fieldAddr 44 (.tmp 198) 2, 0, "base.go:552", #[⟨16, .data⟩], none⟩) (v := .pointer (some ⟨g, 76, none⟩)) rfl (by kernel_rfl) (by kernel_rfl) (by kernel_rfl) (by kernel_rfl) (fun _ _ _ h => h) (Or.inl ⟨by kernel_rfl, fun W _ => (by first | kernel_rfl | go_simp)⟩) hS ?_
    try simp only [Act.put, z1, z2, z3]
    refine wpAnyF_take (i := 18) (oi := ⟨some 200, .indexAddr 42 (.tmp 199) (.tmp 189), 0, "base.go:552", #[⟨17, .data⟩, ⟨7, .data⟩, ⟨0, .phase⟩, ⟨1, .phase⟩, ⟨2, .phase⟩, ⟨3, .phase⟩, ⟨4, .phase⟩, ⟨5, .phase⟩, ⟨6, .phase⟩, ⟨7, .phase⟩, ⟨8, .phase⟩, ⟨9, .phase⟩, ⟨10, .phase⟩, ⟨11, .phase⟩, ⟨12, .phase⟩, ⟨13, .phase⟩, ⟨14, .phase⟩], none⟩) (v := .pointer (some ⟨g, 76 + x * 2, none⟩)) rfl (by kernel_rfl) (by kernel_rfl) (by kernel_rfl) (by kernel_rfl) (fun _ _ _ h => h) (Or.inl ⟨by kernel_rfl, fun W h => Op1.ix_data (.tmp 199) (.tmp 189) (by kernel_rfl) (by kernel_rfl) (by kernel_rfl) (hx9) W⟩) hS ?_
    try simp only [Act.put, z1, z2, z3]
    refine wpAnyF_last (o := ⟨none, .store 41 (.tmp 200) (.tmp 196), 0, "base.go:552", #[⟨18, .data⟩, ⟨14, .data⟩, ⟨0, .phase⟩, ⟨1, .phase⟩, ⟨2, .phase⟩, ⟨3, .phase⟩, ⟨4, .phase⟩, ⟨5, .phase⟩, ⟨6, .phase⟩, ⟨7, .phase⟩, ⟨8, .phase⟩, ⟨9, .phase⟩, ⟨10, .phase⟩, ⟨11, .phase⟩, ⟨12, .phase⟩, ⟨13, .phase⟩, ⟨14, .phase⟩], none⟩) (by kernel_rfl) rfl (by kernel_rfl) (by kernel_rfl) (fun K hK => ?_)
    refine Op1.st_part (cells := #[.int .i64 (m6.stamp n), .string text]) (o0 := 76 + x * 2) 41 (.tmp 200) (.tmp 196) (by kernel_rfl) rfl (by kernel_rfl) (by kernel_rfl) (unhide S1).row sz_dat (by have := (unhide HM6).size; simp; omega) (by simp [Value.oneCell']) ?_
    refine hK.out _ _ ?_
    clear hK K
    try simp only [Act.put, z1, z2, z3]
    refine wpAnyF_done (by kernel_rfl) ?_ _
    have FF := hide (Bd.after (unhide CM) (Bd.dat (unhide S1) (unhide HM6) hx9 (m6.stamp n) text hx))
    clear hS
    go_wp2_with fail
    go_ret
    refine ⟨rfl, ?_⟩
    rw [unhide FIN]
    exact unhide FF
  · have u1 : decide (m.part n q < 0) = false := by rw [hpos]; simp
    have FIN := hide (show Img.putPart m k n q text = m.putData x (m.stamp n) text by
      unfold Img.putPart
      simp only [if_neg (show ¬ m.part n q < 0 by rw [hpos]; omega)]
      rw [hpos, Int.toNat_natCast])
    have HP := hide hpos
    rw [u1]
    clear hpos
    have S1 := hide ((unhide N4).call (Below.refl _ _).drew)
    go_wp2_with fail
    refine wp_region_F (S := fun W' => HasAt W' g 0 m ∧ W'.cell? ⟨gx, 3, none⟩ = some (.int .i64 (q : Int)) ∧ W'.cell? ⟨gx, 6, none⟩ = some (.string text)) 19 (by kernel_rfl) (⟨(unhide S1).has (unhide HM), unhide QB _ _ (unhide S1) 3 _ rfl, unhide QB _ _ (unhide S1) 6 _ rfl⟩) (fun hS => ?_)
    refine wpAnyF_take (i := 0) (oi := ⟨some 182, .move (.tmp 0), 27, "base.go:552", #[], none⟩) (v := .pointer (some ⟨g, 0, none⟩)) rfl (by kernel_rfl) (by kernel_rfl) (by kernel_rfl) (by kernel_rfl) (fun _ _ _ h => h) (Or.inl ⟨by kernel_rfl, fun W h => (by first | kernel_rfl | go_simp)⟩) hS ?_
    try simp only [Act.put, z1, z2, z3]
    refine wpAnyF_take (i := 1) (oi := ⟨some 183, .move (.tmp 9), 100, "base.go:552", #[], none⟩) (v := .pointer (some ⟨g, n * 5, none⟩)) rfl (by kernel_rfl) (by kernel_rfl) (by kernel_rfl) (by kernel_rfl) (fun _ _ _ h => h) (Or.inl ⟨by kernel_rfl, fun W h => (by first | kernel_rfl | go_simp)⟩) hS ?_
    try simp only [Act.put, z1, z2, z3]
    refine wpAnyF_take (i := 2) (oi := ⟨some 184, .fieldAddr 31 (.tmp 3) 3, 0, "base.go:552", #[], none⟩) (v := .pointer (some ⟨gx, 3, none⟩)) rfl (by kernel_rfl) (by kernel_rfl) (by kernel_rfl) (by kernel_rfl) (fun _ _ _ h => h) (Or.inl ⟨by kernel_rfl, fun W h => (by first | kernel_rfl | go_simp)⟩) hS ?_
    try simp only [Act.put, z1, z2, z3]
    refine wpAnyF_take (i := 3) (oi := ⟨some 185, .load 3 (.tmp 184), 3, "base.go:552", #[⟨2, .data⟩], none⟩) (v := .int .i64 (q : Int)) rfl (by kernel_rfl) (by kernel_rfl) (by kernel_rfl) (by kernel_rfl) (fun _ _ _ h => h) (Or.inl ⟨by kernel_rfl, fun W h => Op1.ld_int (.tmp 184) (by kernel_rfl) (by kernel_rfl) W (h.2.1)⟩) hS ?_
    try simp only [Act.put, z1, z2, z3]
    refine wpAnyF_take (i := 4) (oi := ⟨some 186, .nilCheck (.tmp 183), 0, "base.go:552", #[⟨1, .data⟩], none⟩) (v := .pointer (some ⟨g, n * 5, none⟩)) rfl (by kernel_rfl) (by kernel_rfl) (by kernel_rfl) (by kernel_rfl) (fun _ _ _ h => h) (Or.inl ⟨by kernel_rfl, fun W h => (by first | kernel_rfl | go_simp)⟩) hS ?_
    try simp only [Act.put, z1, z2, z3]
    refine wpAnyF_take (i := 5) (oi := ⟨some 187, .fieldAddr 34 (.tmp 186) 3, 0, "base.go:552", #[⟨4, .data⟩], none⟩) (v := .pointer (some ⟨g, n * 5 + 3, none⟩)) rfl (by kernel_rfl) (by kernel_rfl) (by kernel_rfl) (by kernel_rfl) (fun _ _ _ h => h) (Or.inl ⟨by kernel_rfl, fun W h => (by first | kernel_rfl | go_simp)⟩) hS ?_
    try simp only [Act.put, z1, z2, z3]
    refine wpAnyF_take (i := 6) (oi := ⟨some 188, .indexAddr 32 (.tmp 187) (.tmp 185), 0, "base.go:552", #[⟨5, .data⟩, ⟨3, .data⟩], none⟩) (v := .pointer (some ⟨g, n * 5 + 3 + q, none⟩)) rfl (by kernel_rfl) (by kernel_rfl) (by kernel_rfl) (by kernel_rfl) (fun _ _ _ h => h) (Or.inl ⟨by kernel_rfl, fun W h => Op1.ix_part (.tmp 187) (.tmp 185) (by kernel_rfl) (by kernel_rfl) (by kernel_rfl) (hq) W⟩) hS ?_
    try simp only [Act.put, z1, z2, z3]
    refine wpAnyF_take (i := 7) (oi := ⟨some 189, .load 3 (.tmp 188), 3, "base.go:552", #[⟨6, .data⟩], none⟩) (v := .int .i64 (x : Int)) rfl (by kernel_rfl) (by kernel_rfl) (by kernel_rfl) (by kernel_rfl) (fun _ _ _ h => h) (Or.inl ⟨by kernel_rfl, fun W h => Op1.ld_int (.tmp 188) (by kernel_rfl) (by kernel_rfl) W (by have := h.1.part n q hn8 hq; rw [unhide HP, Nat.zero_add] at this; exact this)⟩) hS ?_
    try simp only [Act.put, z1, z2, z3]
    refine wpAnyF_take (i := 8) (oi := ⟨some 190, .move (.tmp 9), 100, "base.go:552", #[], none⟩) (v := .pointer (some ⟨g, n * 5, none⟩)) rfl (by kernel_rfl) (by kernel_rfl) (by kernel_rfl) (by kernel_rfl) (fun _ _ _ h => h) (Or.inl ⟨by kernel_rfl, fun W h => (by first | kernel_rfl | go_simp)⟩) hS ?_
    try simp only [Act.put, z1, z2, z3]
    refine wpAnyF_take (i := 9) (oi := ⟨some 191, .nilCheck (.tmp 190), 0, "base.go:552", #[⟨8, .data⟩], none⟩) (v := .pointer (some ⟨g, n * 5, none⟩)) rfl (by kernel_rfl) (by kernel_rfl) (by kernel_rfl) (by kernel_rfl) (fun _ _ _ h => h) (Or.inl ⟨by kernel_rfl, fun W h => (by first | kernel_rfl | go_simp)⟩) hS ?_
    try simp only [Act.put, z1, z2, z3]
    refine wpAnyF_take (i := 10) (oi := ⟨some 192, .fieldAddr 34 (.tmp 191) 1, 0, "base.go:552", #[⟨9, .data⟩], none⟩) (v := .pointer (some ⟨g, n * 5 + 1, none⟩)) rfl (by kernel_rfl) (by kernel_rfl) (by kernel_rfl) (by kernel_rfl) (fun _ _ _ h => h) (Or.inl ⟨by kernel_rfl, fun W h => (by first | kernel_rfl | go_simp)⟩) hS ?_
    try simp only [Act.put, z1, z2, z3]
    refine wpAnyF_take (i := 11) (oi := ⟨some 193, .load 3 (.tmp 192), 3, "base.go:552", #[⟨10, .data⟩], none⟩) (v := .int .i64 (m.stamp n)) rfl (by kernel_rfl) (by kernel_rfl) (by kernel_rfl) (by kernel_rfl) (fun _ _ _ h => h) (Or.inl ⟨by kernel_rfl, fun W h => Op1.ld_int (.tmp 192) (by kernel_rfl) (by kernel_rfl) W (by have := h.1.stamp n hn8; rw [Nat.zero_add] at this; exact this)⟩) hS ?_
    try simp only [Act.put, z1, z2, z3]
    refine wpAnyF_take (i := 12) (oi := ⟨some 194, .fieldAddr 31 (.tmp 3) 6, 0, "base.go:552", #[], none⟩) (v := .pointer (some ⟨gx, 6, none⟩)) rfl (by kernel_rfl) (by kernel_rfl) (by kernel_rfl) (by kernel_rfl) (fun _ _ _ h => h) (Or.inl ⟨by kernel_rfl, fun W h => (by first | kernel_rfl | go_simp)⟩) hS ?_
    try simp only [Act.put, z1, z2, z3]
    refine wpAnyF_take (i := 13) (oi := ⟨some 195, .load 9 (.tmp 194), 9, "base.go:552", #[⟨12, .data⟩], none⟩) (v := .string text) rfl (by kernel_rfl) (by kernel_rfl) (by kernel_rfl) (by kernel_rfl) (fun _ _ _ h => h) (Or.inl ⟨by kernel_rfl, fun W h => Op1.ld_str (.tmp 194) (by kernel_rfl) (by kernel_rfl) W (h.2.2)⟩) hS ?_
    try simp only [Act.put, z1, z2, z3]
    refine wpAnyF_take (i := 14) (oi := ⟨some 196, .build 41 #[(0, .tmp 193), (1, .tmp 195)], 41, "base.go:552", #[⟨11, .data⟩, ⟨13, .data⟩], none⟩) (v := .agg #[.int .i64 (m.stamp n), .string text]) rfl (by kernel_rfl) (by kernel_rfl) (by kernel_rfl) (by kernel_rfl) (fun _ _ _ h => h) (Or.inl ⟨by kernel_rfl, fun W h => (by first | kernel_rfl | go_simp)⟩) hS ?_
    try simp only [Act.put, z1, z2, z3]
    refine wpAnyF_free (i := 15) (oi := ⟨some 197, .nilCheck (.tmp 182), 0, "base.go:552", #[⟨0, .data⟩], none⟩) (v := .pointer (some ⟨g, 0, none⟩)) rfl (by kernel_rfl) (by kernel_rfl) (by kernel_rfl) (by kernel_rfl) (fun _ _ _ h => h) (Or.inl ⟨by kernel_rfl, fun W _ => (by first | kernel_rfl | go_simp)⟩) hS ?_
    try simp only [Act.put, z1, z2, z3]
    refine wpAnyF_free (i := 16) (oi := ⟨some 198, .fieldAddr 55 (.tmp 197) 0, 0, "base.go:552", #[⟨15, .data⟩], none⟩) (v := .pointer (some ⟨g, 0, none⟩)) rfl (by kernel_rfl) (by kernel_rfl) (by kernel_rfl) (by kernel_rfl) (fun _ _ _ h => h) (Or.inl ⟨by kernel_rfl, fun W _ => (by first | kernel_rfl | go_simp)⟩) hS ?_
    try simp only [Act.put, z1, z2, z3]
    refine wpAnyF_free (i := 17) (oi := ⟨some 199, .fieldAddr 44 (.tmp 198) 2, 0, "base.go:552", #[⟨16, .data⟩], none⟩) (v := .pointer (some ⟨g, 76, none⟩)) rfl (by kernel_rfl) (by kernel_rfl) (by kernel_rfl) (by kernel_rfl) (fun _ _ _ h => h) (Or.inl ⟨by kernel_rfl, fun W _ => (by first | kernel_rfl | go_simp)⟩) hS ?_
    try simp only [Act.put, z1, z2, z3]
    refine wpAnyF_take (i := 18) (oi := ⟨some 200, .indexAddr 42 (.tmp 199) (.tmp 189), 0, "base.go:552", #[⟨17, .data⟩, ⟨7, .data⟩, ⟨0, .phase⟩, ⟨1, .phase⟩, ⟨2, .phase⟩, ⟨3, .phase⟩, ⟨4, .phase⟩, ⟨5, .phase⟩, ⟨6, .phase⟩, ⟨7, .phase⟩, ⟨8, .phase⟩, ⟨9, .phase⟩, ⟨10, .phase⟩, ⟨11, .phase⟩, ⟨12, .phase⟩, ⟨13, .phase⟩, ⟨14, .phase⟩], none⟩) (v := .pointer (some ⟨g, 76 + x * 2, none⟩)) rfl (by kernel_rfl) (by kernel_rfl) (by kernel_rfl) (by kernel_rfl) (fun _ _ _ h => h) (Or.inl ⟨by kernel_rfl, fun W h => Op1.ix_data (.tmp 199) (.tmp 189) (by kernel_rfl) (by kernel_rfl) (by kernel_rfl) (hx9) W⟩) hS ?_
    try simp only [Act.put, z1, z2, z3]
    refine wpAnyF_last (o := ⟨none, .store 41 (.tmp 200) (.tmp 196), 0, "base.go:552", #[⟨18, .data⟩, ⟨14, .data⟩, ⟨0, .phase⟩, ⟨1, .phase⟩, ⟨2, .phase⟩, ⟨3, .phase⟩, ⟨4, .phase⟩, ⟨5, .phase⟩, ⟨6, .phase⟩, ⟨7, .phase⟩, ⟨8, .phase⟩, ⟨9, .phase⟩, ⟨10, .phase⟩, ⟨11, .phase⟩, ⟨12, .phase⟩, ⟨13, .phase⟩, ⟨14, .phase⟩], none⟩) (by kernel_rfl) rfl (by kernel_rfl) (by kernel_rfl) (fun K hK => ?_)
    refine Op1.st_part (cells := #[.int .i64 (m.stamp n), .string text]) (o0 := 76 + x * 2) 41 (.tmp 200) (.tmp 196) (by kernel_rfl) rfl (by kernel_rfl) (by kernel_rfl) (unhide S1).row sz_dat (by have := (unhide HM).size; simp; omega) (by simp [Value.oneCell']) ?_
    refine hK.out _ _ ?_
    clear hK K
    try simp only [Act.put, z1, z2, z3]
    refine wpAnyF_done (by kernel_rfl) ?_ _
    have FF := hide (Bd.after (unhide CM) (Bd.dat (unhide S1) (unhide HM) hx9 (m.stamp n) text hx))
    clear hS
    go_wp2_with fail
    go_ret
    refine ⟨rfl, ?_⟩
    rw [unhide FIN]
    exact unhide FF
set_option maxHeartbeats 4000000 in
set_option maxRecDepth 100000 in
theorem files0_cut (h : W.heap[g]? = some (.cells (cs ++ (ds ++ Sft.btl last t1 t2 t3 t4)) 55)) (hm : IsImg cs m) (hk : IsImg ds k) (hG : Img.Good m last) (dir toDir p : Int) (name tu text : ByteArray) (hn : name.size ≤ maxLen) (ht : tu.size ≤ maxLen) (hx : text.size ≤ maxLen) (hc : Img.scode m k ⟨6, dir, toDir, p, name, tu, text⟩ = 0) :
    Calls Tryz.prog 44 #[.pointer (some ⟨g, 0, none⟩), .agg (stpA ⟨6, dir, toDir, p, name, tu, text⟩)] W fun e w' => e = .returned (.int .i64 0) ∧ Bd W w' g ds (Sft.btl (Img.slast m k last ⟨6, dir, toDir, p, name, tu, text⟩) t1 t2 t3 t4) (Img.sstep m k last ⟨6, dir, toDir, p, name, tu, text⟩) := by
  have tk := Img.take hc
  have hst : Img.sstep m k last ⟨6, dir, toDir, p, name, tu, text⟩ = m.setPart (Img.inoOf m dir name).toNat p.toNat (-1) := by
    rcases Img.sstep_cases (last := last) hc with ⟨z, e⟩ | ⟨z, e⟩ | ⟨z, e⟩ | ⟨z, e⟩ | ⟨z, e⟩ | ⟨z, e⟩
    all_goals first | exact e | (exfalso; revert z; decide) | (simp at z)
  have hsl : Img.slast m k last ⟨6, dir, toDir, p, name, tu, text⟩ = last := by unfold Img.slast; first | rw [if_pos ⟨hc, rfl⟩] | rw [if_neg (fun z => by have := z.2; simp at this)]
  rw [hst, hsl]
  clear hst hsl
  have hne := Img.nm_ne tk.name
  have d0' : 0 ≤ dir := tk.dir.1
  have d3' : dir < 3 := tk.dir.2
  obtain ⟨d, rfl⟩ := Int.eq_ofNat_of_zero_le d0'
  have hd3 : d < 3 := by omega
  have hck := tk.chk
  obtain ⟨q0, q2⟩ := tk.part (.inr rfl)
  have q0 : 0 ≤ p := q0
  have q2 : p < 2 := q2
  obtain ⟨q, rfl⟩ := Int.eq_ofNat_of_zero_le q0
  have hq : q < 2 := by omega
  clear q0 q2
  obtain ⟨j, n, hT⟩ := Img.there hG.ex.ok (tk.old (by simp))
  simp only [Int.toNat_natCast]
  rw [show (Img.inoOf m (d : Int) name).toNat = n by rw [show Img.inoOf m (d : Int) name = (n : Int) from hT.of]; rfl]
  have hfd : m.find d name.toList = (j : Int) := by rw [← Sft.findAt_in hd3 hne]; exact hT.at_
  have hj4 := hT.k4
  have hn8 := hT.n8
  have hino : m.ino d j = (n : Int) := hT.ino
  have HI := hide hino
  have jn : decide ((j : Int) < 0) = false := by simp
  have nz : (n : Int) < 8 := by omega
  clear hc tk hT d0' d3' hG hino
  have BEL := hide (show Below W.heap.size W (W.alloc (.cells (stpA ⟨6, (d : Int), toDir, (q : Int), name, tu, text⟩) 31)) from (Below.refl _ W).alloc (Nat.le_refl _) _)
  have C1 := hide (Idl.stepFault_any ⟨6, (d : Int), toDir, (q : Int), name, tu, text⟩ hn ht hx (W.alloc (.cells (stpA ⟨6, (d : Int), toDir, (q : Int), name, tu, text⟩) 31)))
  rw [hck] at C1
  have HC := hide fun W' bW => stp_box W ⟨6, (d : Int), toDir, (q : Int), name, tu, text⟩ W' bW
  have M0 := hide ((Bm.start h).call (unhide BEL))
  have GN := hide (show W.heap.size ≠ g from by have := (Array.getElem?_eq_some_iff.1 h).1; omega)
  have RX := hide (heap_alloc_last W (.cells (stpA ⟨6, (d : Int), toDir, (q : Int), name, tu, text⟩) 31))
  have HM := hide hm
  have HK := hide hk
  have HFD := hide hfd
  clear h hck hfd hm hk
  simp only [stpA] at C1
  go_enter Tryz.func44, Tryz.ntmps44
  go_wp2_with fail
  refine (unhide C1).mono ?_
  rintro e w1 ⟨rfl, b1⟩
  have M1 := hide ((unhide M0).call b1)
  have HD := hide (b1.trans ((Below.refl w1.heap.size w1).drew.mono b1.size))
  have M2 := hide ((unhide M1).call (Below.refl w1.heap.size w1).drew)
  clear b1 C1 M0 M1
  generalize W.heap.size = gx at *
  go_wp2_with fail
  refine wp_region_held_drew (S := fun W' => HasAt W' g 0 m ∧ W'.cell? ⟨gx, 1, none⟩ = some (.int .i64 (d : Int)) ∧ W'.cell? ⟨gx, 4, none⟩ = some (.string name)) (by kernel_rfl) (⟨(unhide M2).has (unhide HM), unhide HC _ (unhide HD) 1 _ rfl, unhide HC _ (unhide HD) 4 _ rfl⟩) (fun hS => ?_)
  refine tkP (i := 0) (oi := ⟨some 16, .move (.tmp 0), 27, "base.go:507", #[], none⟩) (v := .pointer (some ⟨g, 0, none⟩)) hS ?_
  try simp only [Act.put, z1, z2, z3]
  refine tkP (i := 1) (oi := ⟨some 17, .nilCheck (.tmp 16), 0, "base.go:507", #[⟨0, .data⟩], none⟩) (v := .pointer (some ⟨g, 0, none⟩)) hS ?_
  try simp only [Act.put, z1, z2, z3]
  refine tkP (i := 2) (oi := ⟨some 18, .fieldAddr 55 (.tmp 17) 0, 0, "base.go:507", #[⟨1, .data⟩], none⟩) (v := .pointer (some ⟨g, 0, none⟩)) hS ?_
  try simp only [Act.put, z1, z2, z3]
  refine tkP (i := 3) (oi := ⟨some 19, .fieldAddr 31 (.tmp 3) 1, 0, "base.go:507", #[], none⟩) (v := .pointer (some ⟨gx, 1, none⟩)) hS ?_
  try simp only [Act.put, z1, z2, z3]
  refine tkH (i := 4) (oi := ⟨some 20, .load 3 (.tmp 19), 3, "base.go:507", #[⟨3, .data⟩], none⟩) (v := .int .i64 (d : Int)) (fun W h => Op1.ld_int (.tmp 19) (by kernel_rfl) (by kernel_rfl) W (h.2.1)) hS ?_
  try simp only [Act.put, z1, z2, z3]
  refine tkP (i := 5) (oi := ⟨some 21, .fieldAddr 31 (.tmp 3) 4, 0, "base.go:507", #[], none⟩) (v := .pointer (some ⟨gx, 4, none⟩)) hS ?_
  try simp only [Act.put, z1, z2, z3]
  refine tkH (i := 6) (oi := ⟨some 22, .load 9 (.tmp 21), 9, "base.go:507", #[⟨5, .data⟩], none⟩) (v := .string name) (fun W h => Op1.ld_str (.tmp 21) (by kernel_rfl) (by kernel_rfl) W (h.2.2)) hS ?_
  try simp only [Act.put, z1, z2, z3]
  refine wpAnyH_ready (rs := [7]) (by kernel_rfl) (by simp) ?_
  refine AllReadyH.cons (o := ⟨some 23, .call { callee := .value (.func 53), args := #[.tmp 18, .tmp 20, .tmp 22], argTypes := #[64, 3, 9] }, 3, "base.go:507", #[⟨2, .data⟩, ⟨4, .data⟩, ⟨6, .data⟩], none⟩) rfl (fun K hK => ?_) AllReadyH.nil
  rw [if_pos (by kernel_rfl)]
  go_simp
  refine (rSlotOf_in g m d hd3 name hne _ ((unhide M2).has (unhide HM))).mono ?_
  rintro e w2 ⟨rfl, e9⟩
  rw [e9]
  clear e9 w2
  rw [unhide HFD]
  go_wp2_with fail
  refine hK.out _ _ (hS) (fun hS2 => ?_)
  clear hK K
  try simp only [Act.put, z1, z2, z3]
  refine tkP (i := 8) (oi := ⟨some 6, .assign (.tmp 23), 3, "base.go:507", #[⟨7, .data⟩, ⟨7, .chain⟩, ⟨0, .phase⟩, ⟨1, .phase⟩, ⟨2, .phase⟩, ⟨3, .phase⟩, ⟨4, .phase⟩, ⟨5, .phase⟩, ⟨6, .phase⟩, ⟨7, .phase⟩], none⟩) (v := .int .i64 ((j : Int))) hS2 ?_
  try simp only [Act.put, z1, z2, z3]
  refine wpAnyH_done (by kernel_rfl) ?_ _
  clear hS hS2
  have RV : w1.drew.heap[gx]? = some (.cells (stpA ⟨6, (d : Int), toDir, (q : Int), name, tu, text⟩) 31) := by
    rw [(unhide HD).block gx (Array.getElem?_eq_some_iff.1 (unhide RX)).1]; exact unhide RX
  have hgl : gx < w1.drew.heap.size := (Array.getElem?_eq_some_iff.1 RV).1
  have QB := hide (show ∀ (W' : World) (rows : Array Value), Bm w1.drew W' g rows → ∀ j u, (stpA ⟨6, (d : Int), toDir, (q : Int), name, tu, text⟩)[j]? = some u → W'.cell? ⟨gx, j, none⟩ = some u from fun W' rows N j u hj => by rw [cell_of_row _ _ _ _ _ _ ((N.chg.block gx hgl (unhide GN)).trans RV)]; exact hj)
  have N2 := hide (Bm.start (unhide M2).row)
  have CM := hide (unhide M2).chg
  clear RV hgl HC HD M2 BEL RX HFD GN
  generalize w1.drew = V at *
  have q0 := unhide QB _ _ (unhide N2) 0 _ rfl
  have N3 := hide ((unhide N2).call (Below.refl _ _).drew)
  go_wp2_with fail
  refine wp_region_held_drew (S := fun W' => HasAt W' g 0 m ∧ W'.cell? ⟨gx, 1, none⟩ = some (.int .i64 (d : Int))) (by kernel_rfl) (⟨(unhide N3).has (unhide HM), unhide QB _ _ (unhide N3) 1 _ rfl⟩) (fun hS => ?_)
  refine tkP (i := 0) (oi := ⟨some 83, .move (.tmp 0), 27, "base.go:526", #[], none⟩) (v := .pointer (some ⟨g, 0, none⟩)) hS ?_
  try simp only [Act.put, z1, z2, z3]
  refine tkP (i := 1) (oi := ⟨some 84, .fieldAddr 31 (.tmp 3) 1, 0, "base.go:526", #[], none⟩) (v := .pointer (some ⟨gx, 1, none⟩)) hS ?_
  try simp only [Act.put, z1, z2, z3]
  refine tkH (i := 2) (oi := ⟨some 85, .load 3 (.tmp 84), 3, "base.go:526", #[⟨1, .data⟩], none⟩) (v := .int .i64 (d : Int)) (fun W h => Op1.ld_int (.tmp 84) (by kernel_rfl) (by kernel_rfl) W (h.2)) hS ?_
  try simp only [Act.put, z1, z2, z3]
  refine tkP (i := 3) (oi := ⟨some 86, .move (.tmp 6), 3, "base.go:526", #[], none⟩) (v := .int .i64 (j : Int)) hS ?_
  try simp only [Act.put, z1, z2, z3]
  refine tkP (i := 4) (oi := ⟨some 87, .nilCheck (.tmp 83), 0, "base.go:526", #[⟨0, .data⟩], none⟩) (v := .pointer (some ⟨g, 0, none⟩)) hS ?_
  try simp only [Act.put, z1, z2, z3]
  refine tkP (i := 5) (oi := ⟨some 88, .fieldAddr 55 (.tmp 87) 0, 0, "base.go:526", #[⟨4, .data⟩], none⟩) (v := .pointer (some ⟨g, 0, none⟩)) hS ?_
  try simp only [Act.put, z1, z2, z3]
  refine tkP (i := 6) (oi := ⟨some 89, .fieldAddr 44 (.tmp 88) 1, 0, "base.go:526", #[⟨5, .data⟩], none⟩) (v := .pointer (some ⟨g, 40, none⟩)) hS ?_
  try simp only [Act.put, z1, z2, z3]
  refine tkH (i := 7) (oi := ⟨some 90, .indexAddr 39 (.tmp 89) (.tmp 85), 0, "base.go:526", #[⟨6, .data⟩, ⟨2, .data⟩], none⟩) (v := .pointer (some ⟨g, 40 + d * 12, none⟩)) (fun W h => Op1.ix_dir (.tmp 89) (.tmp 85) (by kernel_rfl) (by kernel_rfl) (by kernel_rfl) (hd3) W) hS ?_
  try simp only [Act.put, z1, z2, z3]
  refine tkH (i := 8) (oi := ⟨some 91, .indexAddr 38 (.tmp 90) (.tmp 86), 0, "base.go:526", #[⟨7, .data⟩, ⟨3, .data⟩], none⟩) (v := .pointer (some ⟨g, 40 + d * 12 + j * 3, none⟩)) (fun W h => Op1.ix_slot (.tmp 90) (.tmp 86) (by kernel_rfl) (by kernel_rfl) (by kernel_rfl) (hj4) W) hS ?_
  try simp only [Act.put, z1, z2, z3]
  refine tkP (i := 9) (oi := ⟨some 92, .fieldAddr 37 (.tmp 91) 1, 0, "base.go:526", #[⟨8, .data⟩], none⟩) (v := .pointer (some ⟨g, 40 + d * 12 + j * 3 + 1, none⟩)) hS ?_
  try simp only [Act.put, z1, z2, z3]
  refine tkH (i := 10) (oi := ⟨some 93, .load 3 (.tmp 92), 3, "base.go:526", #[⟨9, .data⟩], none⟩) (v := .int .i64 (n : Int)) (fun W h => Op1.ld_int (.tmp 92) (by kernel_rfl) (by kernel_rfl) W (by have := h.1.ino d j hd3 hj4; rw [unhide HI, Nat.zero_add] at this; exact this)) hS ?_
  try simp only [Act.put, z1, z2, z3]
  refine tkP (i := 11) (oi := ⟨some 8, .assign (.tmp 93), 3, "base.go:526", #[⟨10, .data⟩, ⟨0, .phase⟩, ⟨1, .phase⟩, ⟨2, .phase⟩, ⟨3, .phase⟩, ⟨4, .phase⟩, ⟨5, .phase⟩, ⟨6, .phase⟩, ⟨7, .phase⟩, ⟨8, .phase⟩, ⟨9, .phase⟩, ⟨10, .phase⟩], none⟩) (v := .int .i64 (n : Int)) hS ?_
  try simp only [Act.put, z1, z2, z3]
  refine wpAnyH_done (by kernel_rfl) ?_ _
  clear hS q0 N2 jn
  generalize V.drew = V1 at *
  have q0 := unhide QB _ _ (unhide N3) 0 _ rfl
  have N4 := hide ((unhide N3).call (Below.refl _ _).drew)
  go_wp2_with fail
  refine wp_region_F (S := fun W' => HasAt W' g 0 m ∧ W'.cell? ⟨gx, 3, none⟩ = some (.int .i64 (q : Int))) 6 (by kernel_rfl) (⟨(unhide N4).has (unhide HM), unhide QB _ _ (unhide N4) 3 _ rfl⟩) (fun hS => ?_)
  refine wpAnyF_take (i := 0) (oi := ⟨some 203, .move (.tmp 9), 100, "base.go:554", #[], none⟩) (v := .pointer (some ⟨g, n * 5, none⟩)) rfl (by kernel_rfl) (by kernel_rfl) (by kernel_rfl) (by kernel_rfl) (fun _ _ _ h => h) (Or.inl ⟨by kernel_rfl, fun W h => (by first | kernel_rfl | go_simp)⟩) hS ?_
  try simp only [Act.put, z1, z2, z3]
  refine wpAnyF_take (i := 1) (oi := ⟨some 204, .fieldAddr 31 (.tmp 3) 3, 0, "base.go:554", #[], none⟩) (v := .pointer (some ⟨gx, 3, none⟩)) rfl (by kernel_rfl) (by kernel_rfl) (by kernel_rfl) (by kernel_rfl) (fun _ _ _ h => h) (Or.inl ⟨by kernel_rfl, fun W h => (by first | kernel_rfl | go_simp)⟩) hS ?_
  try simp only [Act.put, z1, z2, z3]
  refine wpAnyF_take (i := 2) (oi := ⟨some 205, .load 3 (.tmp 204), 3, "base.go:554", #[⟨1, .data⟩], none⟩) (v := .int .i64 (q : Int)) rfl (by kernel_rfl) (by kernel_rfl) (by kernel_rfl) (by kernel_rfl) (fun _ _ _ h => h) (Or.inl ⟨by kernel_rfl, fun W h => Op1.ld_int (.tmp 204) (by kernel_rfl) (by kernel_rfl) W (h.2)⟩) hS ?_
  try simp only [Act.put, z1, z2, z3]
  refine wpAnyF_free (i := 3) (oi := ⟨some 206, .nilCheck (.tmp 203), 0, "base.go:554", #[⟨0, .data⟩], none⟩) (v := .pointer (some ⟨g, n * 5, none⟩)) rfl (by kernel_rfl) (by kernel_rfl) (by kernel_rfl) (by kernel_rfl) (fun _ _ _ h => h) (Or.inl ⟨by kernel_rfl, fun W _ => (by first | kernel_rfl | go_simp)⟩) hS ?_
  try simp only [Act.put, z1, z2, z3]
  refine wpAnyF_free (i := 4) (oi := ⟨some 207, .fieldAddr 34 (.tmp 206) 3, 0, "base.go:554", #[⟨3, .data⟩], none⟩) (v := .pointer (some ⟨g, n * 5 + 3, none⟩)) rfl (by kernel_rfl) (by kernel_rfl) (by kernel_rfl) (by kernel_rfl) (fun _ _ _ h => h) (Or.inl ⟨by kernel_rfl, fun W _ => (by first | kernel_rfl | go_simp)⟩) hS ?_
  try simp only [Act.put, z1, z2, z3]
  refine wpAnyF_take (i := 5) (oi := ⟨some 208, .indexAddr 32 (.tmp 207) (.tmp 205), 0, "base.go:554", #[⟨4, .data⟩, ⟨2, .data⟩, ⟨0, .phase⟩, ⟨1, .phase⟩, ⟨2, .phase⟩], none⟩) (v := .pointer (some ⟨g, n * 5 + 3 + q, none⟩)) rfl (by kernel_rfl) (by kernel_rfl) (by kernel_rfl) (by kernel_rfl) (fun _ _ _ h => h) (Or.inl ⟨by kernel_rfl, fun W h => Op1.ix_part (.tmp 207) (.tmp 205) (by kernel_rfl) (by kernel_rfl) (by kernel_rfl) (hq) W⟩) hS ?_
  try simp only [Act.put, z1, z2, z3]
  refine wpAnyF_last (o := ⟨none, .store 3 (.tmp 208) (.const (.int .i64 (-1))), 0, "base.go:554", #[⟨5, .data⟩, ⟨0, .phase⟩, ⟨1, .phase⟩, ⟨2, .phase⟩], none⟩) (by kernel_rfl) rfl (by kernel_rfl) (by kernel_rfl) (fun K hK => ?_)
  refine Op1.st_int (v := -1) (.tmp 208) (.const (.int .i64 (-1))) (by kernel_rfl) rfl (by kernel_rfl) (by kernel_rfl) (by have := hS.1.part n q hn8 hq; rw [Nat.zero_add] at this; exact this) ((unhide N4).frozen _) ?_
  refine hK.out _ _ ?_
  clear hK K
  try simp only [Act.put, z1, z2, z3]
  refine wpAnyF_done (by kernel_rfl) ?_ _
  have FF := hide (Bd.after (unhide CM) (Bd.part (unhide N4) (unhide HM) hn8 hq (-1)))
  clear hS q0
  go_wp2_with fail
  go_ret
  exact ⟨rfl, unhide FF⟩
end
end Go.Proofs.YtmbpckmpnnmnmacGreat
