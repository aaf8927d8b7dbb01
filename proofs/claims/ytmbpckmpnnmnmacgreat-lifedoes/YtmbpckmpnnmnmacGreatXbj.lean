/-
  (*Bed).Files0: rename. (Written by genfa.py.)
-/
import Derived.Test.YtmbpckmpnnmnmacGreatZz
import Derived.Test.YtmbpckmpnnmnmacGreatXbh
namespace Go.Proofs.YtmbpckmpnnmnmacGreat
open Go.RowKit
open Idl (Stp chk stpA)
section
variable {w W : World} {g : Nat} {cs ds : Array Value} {m k : Img} {last : Int} {t1 t2 t3 t4 : Value}
set_option maxHeartbeats 4000000 in
set_option maxRecDepth 100000 in
theorem files0_rename (h : W.heap[g]? = some (.cells (cs ++ (ds ++ Sft.btl last t1 t2 t3 t4)) 55)) (hm : IsImg cs m) (hk : IsImg ds k) (hG : Img.Good m last) (dir toDir p : Int) (name tu text : ByteArray) (hn : name.size ≤ maxLen) (ht : tu.size ≤ maxLen) (hx : text.size ≤ maxLen) (hc : Img.scode m k ⟨4, dir, toDir, p, name, tu, text⟩ = 0) :
    Calls Tryz.prog 44 #[.pointer (some ⟨g, 0, none⟩), .agg (stpA ⟨4, dir, toDir, p, name, tu, text⟩)] W fun e w' => e = .returned (.int .i64 0) ∧ Bd W w' g ds (Sft.btl (Img.slast m k last ⟨4, dir, toDir, p, name, tu, text⟩) t1 t2 t3 t4) (Img.sstep m k last ⟨4, dir, toDir, p, name, tu, text⟩) := by
  have tk := Img.take hc
  have hst : Img.sstep m k last ⟨4, dir, toDir, p, name, tu, text⟩ = Img.dropped (Img.added m k toDir tu (Img.inoOf m dir name).toNat) dir name := by
    rcases Img.sstep_cases (last := last) hc with ⟨z, e⟩ | ⟨z, e⟩ | ⟨z, e⟩ | ⟨z, e⟩ | ⟨z, e⟩ | ⟨z, e⟩
    all_goals first | exact e | (exfalso; revert z; decide) | (simp at z)
  have hsl : Img.slast m k last ⟨4, dir, toDir, p, name, tu, text⟩ = last := by unfold Img.slast; first | rw [if_pos ⟨hc, rfl⟩] | rw [if_neg (fun z => by have := z.2; simp at this)]
  rw [hst, hsl]
  clear hst hsl
  have hne := Img.nm_ne tk.name
  have d0' : 0 ≤ dir := tk.dir.1
  have d3' : dir < 3 := tk.dir.2
  obtain ⟨d, rfl⟩ := Int.eq_ofNat_of_zero_le d0'
  have hd3 : d < 3 := by omega
  have hck := tk.chk
  have t0 : 0 ≤ toDir := (tk.to (.inr rfl)).1.1
  have t3 : toDir < 3 := (tk.to (.inr rfl)).1.2
  have htne := Img.nm_ne (tk.to (.inr rfl)).2
  obtain ⟨dd, rfl⟩ := Int.eq_ofNat_of_zero_le t0
  have hdd : dd < 3 := by omega
  obtain ⟨j, n, s, hT, hS, hX⟩ := Img.linked hG hc (.inr rfl)
  have hs4 := hS.s4
  have HS1 := hide hS.eq
  have HFT := hide (show m.find dd tu.toList = -1 from Sft.find_m1 hdd htne ((Img.inoOf_neg hG.ex.ok).1 (tk.new2 (.inr rfl))))
  have HL := hide (show 0 ≤ m.links n ∧ m.links n ≤ 100 by have := links_few hG.ex hT.n8 hT.live; omega)
  have HNP := hide (show Img.noPlace m k (dd : Int) tu = false by
    have h1 := (scode_zero hc).2
    unfold Img.sfull at h1
    rw [if_neg (by simp), if_pos (.inr rfl)] at h1
    exact h1)
  rw [show (Img.inoOf m (d : Int) name).toNat = n by rw [show Img.inoOf m (d : Int) name = (n : Int) from hT.of]; rfl]
  have hfd : m.find d name.toList = (j : Int) := by rw [← Sft.findAt_in hd3 hne]; exact hT.at_
  have hj4 := hT.k4
  have hn8 := hT.n8
  have hino : m.ino d j = (n : Int) := hT.ino
  have HI := hide hino
  have jn : decide ((j : Int) < 0) = false := by simp
  have nz : (n : Int) < 8 := by omega
  have hX' : Img.Ex (Img.added m k (dd : Int) tu n) := hX
  have hT2 := hT.added hS hX.ok
  have HQ := hide (Sft.dropped_links hX' hT2)
  have HL2 := hide (show 1 ≤ (Img.added m k (dd : Int) tu n).links n ∧ (Img.added m k (dd : Int) tu n).links n ≤ 100 by have := links_few hX' hT2.n8 hT2.live; omega)
  generalize Img.dropped (Img.added m k (dd : Int) tu n) (d : Int) name = mf at HQ ⊢
  clear hc tk hT hT2 hS hX hX' t0 t3 d0' d3' hG hino
  have BEL := hide (show Below W.heap.size W (W.alloc (.cells (stpA ⟨4, (d : Int), (dd : Int), p, name, tu, text⟩) 31)) from (Below.refl _ W).alloc (Nat.le_refl _) _)
  have C1 := hide (Idl.stepFault_any ⟨4, (d : Int), (dd : Int), p, name, tu, text⟩ hn ht hx (W.alloc (.cells (stpA ⟨4, (d : Int), (dd : Int), p, name, tu, text⟩) 31)))
  rw [hck] at C1
  have HC := hide fun W' bW => stp_box W ⟨4, (d : Int), (dd : Int), p, name, tu, text⟩ W' bW
  have M0 := hide ((Bm.start h).call (unhide BEL))
  have GN := hide (show W.heap.size ≠ g from by have := (Array.getElem?_eq_some_iff.1 h).1; omega)
  have RX := hide (heap_alloc_last W (.cells (stpA ⟨4, (d : Int), (dd : Int), p, name, tu, text⟩) 31))
  have HM := hide hm
  have HK := hide hk
  have HFD := hide hfd
  clear h hck hfd hm hk
  simp only [stpA] at C1
  go_enter Tryz.func44, Tryz.ntmps44
  go_wp2_with fail
  refine (unhide C1).mono ?_
  rintro e w1 ⟨rfl, b1⟩
  have M1 := hide ((unhide M0).call b1)
  have HD := hide (b1.trans ((Below.refl w1.heap.size w1).drew.mono b1.size))
  have M2 := hide ((unhide M1).call (Below.refl w1.heap.size w1).drew)
  clear b1 C1 M0 M1
  generalize W.heap.size = gx at *
  go_wp2_with fail
  refine wp_region_held_drew (S := fun W' => HasAt W' g 0 m ∧ W'.cell? ⟨gx, 1, none⟩ = some (.int .i64 (d : Int)) ∧ W'.cell? ⟨gx, 4, none⟩ = some (.string name)) (by kernel_rfl) (⟨(unhide M2).has (unhide HM), unhide HC _ (unhide HD) 1 _ rfl, unhide HC _ (unhide HD) 4 _ rfl⟩) (fun hS => ?_)
  refine tkP (i := 0) (oi := ⟨some 16, .move (.tmp 0), 27, "base.go:507", #[], none⟩) (v := .pointer (some ⟨g, 0, none⟩)) hS ?_
  try simp only [Act.put, z1, z2, z3]
  refine tkP (i := 1) (oi := ⟨some 17, .nilCheck (.tmp 16), 0, "base.go:507", #[⟨0, .data⟩], none⟩) (v := .pointer (some ⟨g, 0, none⟩)) hS ?_
  try simp only [Act.put, z1, z2, z3]
  refine tkP (i := 2) (oi := ⟨some 18, .fieldAddr 55 (.tmp 17) 0, 0, "base.go:507", #[⟨1, .data⟩], none⟩) (v := .pointer (some ⟨g, 0, none⟩)) hS ?_
  try simp only [Act.put, z1, z2, z3]
  refine tkP (i := 3) (oi := ⟨some 19, .fieldAddr 31 (.tmp 3) 1, 0, "base.go:507", #[], none⟩) (v := .pointer (some ⟨gx, 1, none⟩)) hS ?_
  try simp only [Act.put, z1, z2, z3]
  refine tkH (i := 4) (oi := ⟨some 20, .load 3 (.tmp 19), 3, "base.go:507", #[⟨3, .data⟩], none⟩) (v := .int .i64 (d : Int)) (fun W h => Op1.ld_int (.tmp 19) (by kernel_rfl) (by kernel_rfl) W (h.2.1)) hS ?_
  try simp only [Act.put, z1, z2, z3]
  refine tkP (i := 5) (oi := ⟨some 21, .fieldAddr 31 (.tmp 3) 4, 0, "base.go:507", #[], none⟩) (v := .pointer (some ⟨gx, 4, none⟩)) hS ?_
  try simp only [Act.put, z1, z2, z3]
  refine tkH (i := 6) (oi := ⟨some 22, .load 9 (.tmp 21), 9, "base.go:507", #[⟨5, .data⟩], none⟩) (v := .string name) (fun W h => Op1.ld_str (.tmp 21) (by kernel_rfl) (by kernel_rfl) W (h.2.2)) hS ?_
  try simp only [Act.put, z1, z2, z3]
  refine wpAnyH_ready (rs := [7]) (by kernel_rfl) (by simp) ?_
  refine AllReadyH.cons (o := ⟨some 23, .call { callee := .value (.func 53), args := #[.tmp 18, .tmp 20, .tmp 22], argTypes := #[64, 3, 9] }, 3, "base.go:507", #[⟨2, .data⟩, ⟨4, .data⟩, ⟨6, .data⟩], none⟩) rfl (fun K hK => ?_) AllReadyH.nil
  rw [if_pos (by kernel_rfl)]
  go_simp
  refine (rSlotOf_in g m d hd3 name hne _ ((unhide M2).has (unhide HM))).mono ?_
  rintro e w2 ⟨rfl, e9⟩
  rw [e9]
  clear e9 w2
  rw [unhide HFD]
  go_wp2_with fail
  refine hK.out _ _ (hS) (fun hS2 => ?_)
  clear hK K
  try simp only [Act.put, z1, z2, z3]
  refine tkP (i := 8) (oi := ⟨some 6, .assign (.tmp 23), 3, "base.go:507", #[⟨7, .data⟩, ⟨7, .chain⟩, ⟨0, .phase⟩, ⟨1, .phase⟩, ⟨2, .phase⟩, ⟨3, .phase⟩, ⟨4, .phase⟩, ⟨5, .phase⟩, ⟨6, .phase⟩, ⟨7, .phase⟩], none⟩) (v := .int .i64 ((j : Int))) hS2 ?_
  try simp only [Act.put, z1, z2, z3]
  refine wpAnyH_done (by kernel_rfl) ?_ _
  clear hS hS2
  have RV : w1.drew.heap[gx]? = some (.cells (stpA ⟨4, (d : Int), (dd : Int), p, name, tu, text⟩) 31) := by
    rw [(unhide HD).block gx (Array.getElem?_eq_some_iff.1 (unhide RX)).1]; exact unhide RX
  have hgl : gx < w1.drew.heap.size := (Array.getElem?_eq_some_iff.1 RV).1
  have QB := hide (show ∀ (W' : World) (rows : Array Value), Bm w1.drew W' g rows → ∀ j u, (stpA ⟨4, (d : Int), (dd : Int), p, name, tu, text⟩)[j]? = some u → W'.cell? ⟨gx, j, none⟩ = some u from fun W' rows N j u hj => by rw [cell_of_row _ _ _ _ _ _ ((N.chg.block gx hgl (unhide GN)).trans RV)]; exact hj)
  have N2 := hide (Bm.start (unhide M2).row)
  have CM := hide (unhide M2).chg
  clear RV hgl HC HD M2 BEL RX HFD GN
  generalize w1.drew = V at *
  have q0 := unhide QB _ _ (unhide N2) 0 _ rfl
  have N3 := hide ((unhide N2).call (Below.refl _ _).drew)
  go_wp2_with fail
  refine wp_region_held_drew (S := fun W' => HasAt W' g 0 m ∧ W'.cell? ⟨gx, 1, none⟩ = some (.int .i64 (d : Int))) (by kernel_rfl) (⟨(unhide N3).has (unhide HM), unhide QB _ _ (unhide N3) 1 _ rfl⟩) (fun hS => ?_)
  refine tkP (i := 0) (oi := ⟨some 83, .move (.tmp 0), 27, "base.go:526", #[], none⟩) (v := .pointer (some ⟨g, 0, none⟩)) hS ?_
  try simp only [Act.put, z1, z2, z3]
  refine tkP (i := 1) (oi := ⟨some 84, .fieldAddr 31 (.tmp 3) 1, 0, "base.go:526", #[], none⟩) (v := .pointer (some ⟨gx, 1, none⟩)) hS ?_
  try simp only [Act.put, z1, z2, z3]
  refine tkH (i := 2) (oi := ⟨some 85, .load 3 (.tmp 84), 3, "base.go:526", #[⟨1, .data⟩], none⟩) (v := .int .i64 (d : Int)) (fun W h => Op1.ld_int (.tmp 84) (by kernel_rfl) (by kernel_rfl) W (h.2)) hS ?_
  try simp only [Act.put, z1, z2, z3]
  refine tkP (i := 3) (oi := ⟨some 86, .move (.tmp 6), 3, "base.go:526", #[], none⟩) (v := .int .i64 (j : Int)) hS ?_
  try simp only [Act.put, z1, z2, z3]
  refine tkP (i := 4) (oi := ⟨some 87, .nilCheck (.tmp 83), 0, "base.go:526", #[⟨0, .data⟩], none⟩) (v := .pointer (some ⟨g, 0, none⟩)) hS ?_
  try simp only [Act.put, z1, z2, z3]
  refine tkP (i := 5) (oi := ⟨some 88, .fieldAddr 55 (.tmp 87) 0, 0, "base.go:526", #[⟨4, .data⟩], none⟩) (v := .pointer (some ⟨g, 0, none⟩)) hS ?_
  try simp only [Act.put, z1, z2, z3]
  refine tkP (i := 6) (oi := ⟨some 89, .fieldAddr 44 (.tmp 88) 1, 0, "base.go:526", #[⟨5, .data⟩], none⟩) (v := .pointer (some ⟨g, 40, none⟩)) hS ?_
  try simp only [Act.put, z1, z2, z3]
  refine tkH (i := 7) (oi := ⟨some 90, .indexAddr 39 (.tmp 89) (.tmp 85), 0, "base.go:526", #[⟨6, .data⟩, ⟨2, .data⟩], none⟩) (v := .pointer (some ⟨g, 40 + d * 12, none⟩)) (fun W h => Op1.ix_dir (.tmp 89) (.tmp 85) (by kernel_rfl) (by kernel_rfl) (by kernel_rfl) (hd3) W) hS ?_
  try simp only [Act.put, z1, z2, z3]
  refine tkH (i := 8) (oi := ⟨some 91, .indexAddr 38 (.tmp 90) (.tmp 86), 0, "base.go:526", #[⟨7, .data⟩, ⟨3, .data⟩], none⟩) (v := .pointer (some ⟨g, 40 + d * 12 + j * 3, none⟩)) (fun W h => Op1.ix_slot (.tmp 90) (.tmp 86) (by kernel_rfl) (by kernel_rfl) (by kernel_rfl) (hj4) W) hS ?_
  try simp only [Act.put, z1, z2, z3]
  refine tkP (i := 9) (oi := ⟨some 92, .fieldAddr 37 (.tmp 91) 1, 0, "base.go:526", #[⟨8, .data⟩], none⟩) (v := .pointer (some ⟨g, 40 + d * 12 + j * 3 + 1, none⟩)) hS ?_
  try simp only [Act.put, z1, z2, z3]
  refine tkH (i := 10) (oi := ⟨some 93, .load 3 (.tmp 92), 3, "base.go:526", #[⟨9, .data⟩], none⟩) (v := .int .i64 (n : Int)) (fun W h => Op1.ld_int (.tmp 92) (by kernel_rfl) (by kernel_rfl) W (by have := h.1.ino d j hd3 hj4; rw [unhide HI, Nat.zero_add] at this; exact this)) hS ?_
  try simp only [Act.put, z1, z2, z3]
  refine tkP (i := 11) (oi := ⟨some 8, .assign (.tmp 93), 3, "base.go:526", #[⟨10, .data⟩, ⟨0, .phase⟩, ⟨1, .phase⟩, ⟨2, .phase⟩, ⟨3, .phase⟩, ⟨4, .phase⟩, ⟨5, .phase⟩, ⟨6, .phase⟩, ⟨7, .phase⟩, ⟨8, .phase⟩, ⟨9, .phase⟩, ⟨10, .phase⟩], none⟩) (v := .int .i64 (n : Int)) hS ?_
  try simp only [Act.put, z1, z2, z3]
  refine wpAnyH_done (by kernel_rfl) ?_ _
  clear hS q0 N2 jn
  generalize V.drew = V1 at *
  have q0 := unhide QB _ _ (unhide N3) 0 _ rfl
  have N4 := hide ((unhide N3).call (Below.refl _ _).drew)
  have CR := hide (Sft.rRoom_any g m k dd hdd tu htne V1.drew ((unhide N4).has (unhide HM)) ((unhide N4).hasD (unhide HM) (unhide HK)))
  rw [unhide HNP] at CR
  go_wp2_with fail
  refine wp_region_held_drew (S := fun W' => HasAt W' g 0 m ∧ W'.cell? ⟨gx, 2, none⟩ = some (.int .i64 (dd : Int)) ∧ W'.cell? ⟨gx, 5, none⟩ = some (.string tu)) (by kernel_rfl) (⟨(unhide N4).has (unhide HM), unhide QB _ _ (unhide N4) 2 _ rfl, unhide QB _ _ (unhide N4) 5 _ rfl⟩) (fun hS => ?_)
  refine tkP (i := 0) (oi := ⟨some 108, .move (.tmp 0), 27, "base.go:529", #[], none⟩) (v := .pointer (some ⟨g, 0, none⟩)) hS ?_
  try simp only [Act.put, z1, z2, z3]
  refine tkP (i := 1) (oi := ⟨some 109, .nilCheck (.tmp 108), 0, "base.go:529", #[⟨0, .data⟩], none⟩) (v := .pointer (some ⟨g, 0, none⟩)) hS ?_
  try simp only [Act.put, z1, z2, z3]
  refine tkP (i := 2) (oi := ⟨some 110, .fieldAddr 55 (.tmp 109) 0, 0, "base.go:529", #[⟨1, .data⟩], none⟩) (v := .pointer (some ⟨g, 0, none⟩)) hS ?_
  try simp only [Act.put, z1, z2, z3]
  refine tkP (i := 3) (oi := ⟨some 111, .fieldAddr 31 (.tmp 3) 2, 0, "base.go:529", #[], none⟩) (v := .pointer (some ⟨gx, 2, none⟩)) hS ?_
  try simp only [Act.put, z1, z2, z3]
  refine tkH (i := 4) (oi := ⟨some 112, .load 3 (.tmp 111), 3, "base.go:529", #[⟨3, .data⟩], none⟩) (v := .int .i64 (dd : Int)) (fun W h => Op1.ld_int (.tmp 111) (by kernel_rfl) (by kernel_rfl) W (h.2.1)) hS ?_
  try simp only [Act.put, z1, z2, z3]
  refine tkP (i := 5) (oi := ⟨some 113, .fieldAddr 31 (.tmp 3) 5, 0, "base.go:529", #[], none⟩) (v := .pointer (some ⟨gx, 5, none⟩)) hS ?_
  try simp only [Act.put, z1, z2, z3]
  refine tkH (i := 6) (oi := ⟨some 114, .load 9 (.tmp 113), 9, "base.go:529", #[⟨5, .data⟩], none⟩) (v := .string tu) (fun W h => Op1.ld_str (.tmp 113) (by kernel_rfl) (by kernel_rfl) W (h.2.2)) hS ?_
  try simp only [Act.put, z1, z2, z3]
  refine wpAnyH_ready (rs := [7]) (by kernel_rfl) (by simp) ?_
  refine AllReadyH.cons (o := ⟨some 115, .call { callee := .value (.func 53), args := #[.tmp 110, .tmp 112, .tmp 114], argTypes := #[64, 3, 9] }, 3, "base.go:529", #[⟨2, .data⟩, ⟨4, .data⟩, ⟨6, .data⟩], none⟩) rfl (fun K hK => ?_) AllReadyH.nil
  rw [if_pos (by kernel_rfl)]
  go_simp
  refine (rSlotOf_in g m dd hdd tu htne _ ((unhide N4).has (unhide HM))).mono ?_
  rintro e w2 ⟨rfl, e9⟩
  rw [e9]
  clear e9 w2
  rw [unhide HFT]
  go_wp2_with fail
  refine hK.out _ _ (hS) (fun hS2 => ?_)
  clear hK K
  try simp only [Act.put, z1, z2, z3]
  refine tkP (i := 8) (oi := ⟨some 116, .binOp .geq 3 (.tmp 115) (.const (.int .i64 0)) 3, 4, "base.go:529", #[⟨7, .data⟩], none⟩) (v := .bool false) hS2 ?_
  try simp only [Act.put, z1, z2, z3]
  refine wpAnyH_done (by kernel_rfl) ?_ _
  clear hS hS2 q0 nz
  generalize V1.drew = V2 at *
  have q2 := unhide QB _ _ (unhide N4) 2 _ rfl
  have q5 := unhide QB _ _ (unhide N4) 5 _ rfl
  go_wp2_with fail
  refine (unhide CR).mono ?_
  rintro e w3 ⟨rfl, b3⟩
  have N5 := hide ((unhide N4).call b3)
  clear b3 q2 q5 CR N3
  have q2 := unhide QB _ _ (unhide N5) 2 _ rfl
  have q5 := unhide QB _ _ (unhide N5) 5 _ rfl
  have A := hide (rAdd_any (unhide N5) (unhide HM) (unhide HK) hdd hn8 hs4 (unhide HS1) tu ht (unhide HL))
  go_wp2_with fail
  refine (unhide A).mono ?_
  rintro e w9 ⟨rfl, n9⟩
  obtain ⟨cs9, n9b, hm9⟩ := n9
  have N9 := hide n9b
  have HM9 := hide hm9
  generalize Img.added m k (dd : Int) tu n = m9 at HM9 HQ HL2
  clear n9b hm9 A q2 q5 N4 N5
  have q0 := unhide QB _ _ (unhide N9) 0 _ rfl
  have P1 := hide ((unhide N9).call (Below.refl _ _).drew)
  go_wp2_with fail
  refine wp_region_F (S := fun W' => HasAt W' g 0 m9 ∧ W'.cell? ⟨gx, 1, none⟩ = some (.int .i64 (d : Int))) 10 (by kernel_rfl) (⟨(unhide P1).has (unhide HM9), unhide QB _ _ (unhide P1) 1 _ rfl⟩) (fun hS => ?_)
  refine wpAnyF_take (i := 0) (oi := ⟨some 136, .move (.tmp 0), 27, "base.go:539", #[], none⟩) (v := .pointer (some ⟨g, 0, none⟩)) rfl (by kernel_rfl) (by kernel_rfl) (by kernel_rfl) (by kernel_rfl) (fun _ _ _ h => h) (Or.inl ⟨by kernel_rfl, fun W h => (by first | kernel_rfl | go_simp)⟩) hS ?_
  try simp only [Act.put, z1, z2, z3]
  refine wpAnyF_take (i := 1) (oi := ⟨some 137, .fieldAddr 31 (.tmp 3) 1, 0, "base.go:539", #[], none⟩) (v := .pointer (some ⟨gx, 1, none⟩)) rfl (by kernel_rfl) (by kernel_rfl) (by kernel_rfl) (by kernel_rfl) (fun _ _ _ h => h) (Or.inl ⟨by kernel_rfl, fun W h => (by first | kernel_rfl | go_simp)⟩) hS ?_
  try simp only [Act.put, z1, z2, z3]
  refine wpAnyF_take (i := 2) (oi := ⟨some 138, .load 3 (.tmp 137), 3, "base.go:539", #[⟨1, .data⟩], none⟩) (v := .int .i64 (d : Int)) rfl (by kernel_rfl) (by kernel_rfl) (by kernel_rfl) (by kernel_rfl) (fun _ _ _ h => h) (Or.inl ⟨by kernel_rfl, fun W h => Op1.ld_int (.tmp 137) (by kernel_rfl) (by kernel_rfl) W (h.2)⟩) hS ?_
  try simp only [Act.put, z1, z2, z3]
  refine wpAnyF_take (i := 3) (oi := ⟨some 139, .move (.tmp 6), 3, "base.go:539", #[], none⟩) (v := .int .i64 (j : Int)) rfl (by kernel_rfl) (by kernel_rfl) (by kernel_rfl) (by kernel_rfl) (fun _ _ _ h => h) (Or.inl ⟨by kernel_rfl, fun W h => (by first | kernel_rfl | go_simp)⟩) hS ?_
  try simp only [Act.put, z1, z2, z3]
  refine wpAnyF_take (i := 4) (oi := ⟨some 140, .build 37 #[], 37, "base.go:539", #[], none⟩) (v := .agg #[.string ⟨#[]⟩, .int .i64 0, .int .i64 0]) rfl (by kernel_rfl) (by kernel_rfl) (by kernel_rfl) (by kernel_rfl) (fun _ _ _ h => h) (Or.inl ⟨by kernel_rfl, fun W h => (by first | kernel_rfl | go_simp)⟩) hS ?_
  try simp only [Act.put, z1, z2, z3]
  refine wpAnyF_free (i := 5) (oi := ⟨some 141, .nilCheck (.tmp 136), 0, "base.go:539", #[⟨0, .data⟩], none⟩) (v := .pointer (some ⟨g, 0, none⟩)) rfl (by kernel_rfl) (by kernel_rfl) (by kernel_rfl) (by kernel_rfl) (fun _ _ _ h => h) (Or.inl ⟨by kernel_rfl, fun W _ => (by first | kernel_rfl | go_simp)⟩) hS ?_
  try simp only [Act.put, z1, z2, z3]
  refine wpAnyF_free (i := 6) (oi := ⟨some 142, .fieldAddr 55 (.tmp 141) 0, 0, "base.go:539", #[⟨5, .data⟩], none⟩) (v := .pointer (some ⟨g, 0, none⟩)) rfl (by kernel_rfl) (by kernel_rfl) (by kernel_rfl) (by kernel_rfl) (fun _ _ _ h => h) (Or.inl ⟨by kernel_rfl, fun W _ => (by first | kernel_rfl | go_simp)⟩) hS ?_
  try simp only [Act.put, z1, z2, z3]
  refine wpAnyF_free (i := 7) (oi := ⟨some 143, .fieldAddr 44 (.tmp 142) 1, 0, "base.go:539", #[⟨6, .data⟩], none⟩) (v := .pointer (some ⟨g, 40, none⟩)) rfl (by kernel_rfl) (by kernel_rfl) (by kernel_rfl) (by kernel_rfl) (fun _ _ _ h => h) (Or.inl ⟨by kernel_rfl, fun W _ => (by first | kernel_rfl | go_simp)⟩) hS ?_
  try simp only [Act.put, z1, z2, z3]
  refine wpAnyF_free (i := 8) (oi := ⟨some 144, .indexAddr 39 (.tmp 143) (.tmp 138), 0, "base.go:539", #[⟨7, .data⟩, ⟨2, .data⟩], none⟩) (v := .pointer (some ⟨g, 40 + d * 12, none⟩)) rfl (by kernel_rfl) (by kernel_rfl) (by kernel_rfl) (by kernel_rfl) (fun _ _ _ h => h) (Or.inl ⟨by kernel_rfl, fun W _ => Op1.ix_dir (.tmp 143) (.tmp 138) (by kernel_rfl) (by kernel_rfl) (by kernel_rfl) (hd3) W⟩) hS ?_
  try simp only [Act.put, z1, z2, z3]
  refine wpAnyF_take (i := 9) (oi := ⟨some 145, .indexAddr 38 (.tmp 144) (.tmp 139), 0, "base.go:539", #[⟨8, .data⟩, ⟨3, .data⟩, ⟨0, .phase⟩, ⟨1, .phase⟩, ⟨2, .phase⟩, ⟨3, .phase⟩, ⟨4, .phase⟩], none⟩) (v := .pointer (some ⟨g, 40 + d * 12 + j * 3, none⟩)) rfl (by kernel_rfl) (by kernel_rfl) (by kernel_rfl) (by kernel_rfl) (fun _ _ _ h => h) (Or.inl ⟨by kernel_rfl, fun W h => Op1.ix_slot (.tmp 144) (.tmp 139) (by kernel_rfl) (by kernel_rfl) (by kernel_rfl) (hj4) W⟩) hS ?_
  try simp only [Act.put, z1, z2, z3]
  refine wpAnyF_last (o := ⟨none, .store 37 (.tmp 145) (.tmp 140), 0, "base.go:539", #[⟨9, .data⟩, ⟨4, .data⟩, ⟨0, .phase⟩, ⟨1, .phase⟩, ⟨2, .phase⟩, ⟨3, .phase⟩, ⟨4, .phase⟩], none⟩) (by kernel_rfl) rfl (by kernel_rfl) (by kernel_rfl) (fun K hK => ?_)
  refine Op1.st_part (cells := #[.string ⟨#[]⟩, .int .i64 0, .int .i64 0]) (o0 := 40 + d * 12 + j * 3) 37 (.tmp 145) (.tmp 140) (by kernel_rfl) rfl (by kernel_rfl) (by kernel_rfl) (unhide P1).row sz_ent (by have := (unhide HM9).size; simp; omega) (by kernel_rfl) ?_
  refine hK.out _ _ ?_
  clear hK K
  try simp only [Act.put, z1, z2, z3]
  refine wpAnyF_done (by kernel_rfl) ?_ _
  obtain ⟨cs1, f3, hm3⟩ := Bd.ent (unhide P1) (unhide HM9) hd3 hj4 Ent.none (Nat.zero_le _)
  have P2 : Hid (Bm V (w9.drew.setRow g (splice (cs9 ++ (ds ++ Sft.btl last t1 t2 t3 t4)) (40 + d * 12 + j * 3) #[.string ⟨#[]⟩, .int .i64 0, .int .i64 0])) g (cs1 ++ (ds ++ Sft.btl last t1 t2 t3 t4))) := hide f3
  have HM2 := hide hm3
  clear f3 hm3 hS q0
  generalize w9.drew.setRow g (splice (cs9 ++ (ds ++ Sft.btl last t1 t2 t3 t4)) (40 + d * 12 + j * 3) #[.string ⟨#[]⟩, .int .i64 0, .int .i64 0]) = W1 at P2 ⊢
  have c2 : W1.cell? ⟨g, n * 5 + 2, none⟩ = some (.int .i64 (m9.links n)) := by
    have := ((unhide P2).has (unhide HM2)).links n hn8
    rw [Nat.zero_add] at this; exact this
  have f2 := (unhide P2).frozen (n * 5 + 2)
  have l2 := (unhide P2).lt
  obtain ⟨cs2, f4, hm4⟩ := Bd.lnk (unhide P2) (unhide HM2) hn8 (m9.links n - 1)
  have P3 := hide f4
  have HM3 := hide (show IsImg cs2 ((m9.putEnt d j Ent.none).putIno n ⟨m9.live n, m9.stamp n, m9.links n - 1, m9.part n 0, m9.part n 1⟩) from hm4)
  clear f4 hm4
  have c3 : (W1.setCell ⟨g, n * 5 + 2, none⟩ (.int .i64 (m9.links n - 1))).cell? ⟨g, n * 5 + 2, none⟩ = some (.int .i64 (m9.links n - 1)) := by
    have := ((unhide P3).has (unhide HM3)).links n hn8
    rw [Nat.zero_add, Img.putIno_links, if_pos rfl] at this; exact this
  have hw : IntKind.i64.wrap (m9.links n - 1) = m9.links n - 1 := IntWalk.i64_in _ (by have := unhide HL2; omega)
  generalize (m9.putEnt d j Ent.none).putIno n ⟨m9.live n, m9.stamp n, m9.links n - 1, m9.part n 0, m9.part n 1⟩ = m2 at HM3 HQ
  generalize hlk : m9.links n - 1 = lk at hw c3 P3 HQ
  generalize m9.links n = l0 at c2 hlk HL2
  clear P1 HM2
  by_cases hz : lk = 0
  · have u1 : (lk == 0) = true := by simp [hz]
    have FIN := hide (show mf = m2.putIno n Ino.none by rw [unhide HQ, if_pos hz])
    clear hz
    subst hlk
    go_wp2_with fail
    generalize W1.setCell ⟨g, n * 5 + 2, none⟩ (.int .i64 (l0 - 1)) = W3 at P3 ⊢
    clear c2 c3 f2 l2 hw u1 P2
    refine (none_any _).mono ?_
    rintro e w5 ⟨rfl, b5⟩
    have P4 := hide ((unhide P3).call b5)
    have r5 := hide (unhide P4).row
    have z5 : n * 5 + 5 ≤ (cs2 ++ (ds ++ Sft.btl last t1 t2 t3 t4)).size := by have := (unhide HM3).size; simp; omega
    clear b5 P3
    go_wp2_with (have hx := unhide r5; refine wpList_store_part rfl 34 _ _ rfl g (n * 5) #[.bool false, .int .i64 0, .int .i64 0, .int .i64 (-1), .int .i64 (-1)] rfl rfl 55 (cs2 ++ (ds ++ Sft.btl last t1 t2 t3 t4)) hx sz_ino z5 (by kernel_rfl) ?_; clear hx r5)
    go_ret
    refine ⟨rfl, ?_⟩
    rw [unhide FIN]
    exact Bd.after (unhide CM) (Bd.ino (unhide P4) (unhide HM3) hn8 Ino.none)
  · have u1 : (lk == 0) = false := by simpa using hz
    have FIN := hide (show mf = m2 by rw [unhide HQ, if_neg hz])
    clear hz
    subst hlk
    go_wp2_with fail
    go_ret
    refine ⟨rfl, ?_⟩
    rw [unhide FIN]
    exact Bd.after (unhide CM) ⟨cs2, unhide P3, unhide HM3⟩
end
end Go.Proofs.YtmbpckmpnnmnmacGreat
