/-
  (*Bed).Files0 where it answers a code. (Written by genfe.py.)
-/
import Derived.Test.YtmbpckmpnnmnmacGreatZz
import Derived.Test.YtmbpckmpnnmnmacGreatXbh
namespace Go.Proofs.YtmbpckmpnnmnmacGreat
open Go.RowKit
open Idl (Stp chk stpA)
theorem Op1.geq0t {o : Oper} {ρ : Operand → Value} (x : Operand) (ho : o.op = .binOp .geq 3 x (.const (.int .i64 0)) 3) {j : Nat} (hx : ρ x = .int .i64 (j : Int)) (hy : ρ (.const (.int .i64 0)) = .int .i64 0) (w : World) : (execOp ρ o).run Tryz.prog w = .ok (.value (.bool true)) w := by
  have hv : decide (0 ≤ (j : Int)) = true := by simp
  unfold execOp
  rw [ho]
  go_simp
theorem Bm.after {w0 w w' : World} {g : Nat} {rows : Array Value} (b : Bm w w' g rows) (h : Idl.Chg (fun i => i = g) w0 w) : Bm w0 w' g rows := ⟨b.row, h.trans b.chg (fun _ hi => .inl hi)⟩
section
variable {w W : World} {g : Nat} {cs ds : Array Value} {m k : Img} {last : Int} {t1 t2 t3 t4 : Value}
set_option maxHeartbeats 4000000 in
set_option maxRecDepth 100000 in
theorem files0_makeThere (h : W.heap[g]? = some (.cells (cs ++ (ds ++ Sft.btl last t1 t2 t3 t4)) 55)) (hm : IsImg cs m) (hk : IsImg ds k) (toDir p : Int) (name tu text : ByteArray) (hn : name.size ≤ maxLen) (ht : tu.size ≤ maxLen) (hx : text.size ≤ maxLen) {d : Nat} (hd3 : d < 3) (hne : name.toList.isEmpty = false) (hck : chk ⟨1, (d : Int), toDir, p, name, tu, text⟩ = 0) {j : Nat} (hfd : m.find d name.toList = (j : Int)) :
    Calls Tryz.prog 44 #[.pointer (some ⟨g, 0, none⟩), .agg (stpA ⟨1, (d : Int), toDir, p, name, tu, text⟩)] W fun e w' => e = .returned (.int .i64 4) ∧ Bm W w' g (cs ++ (ds ++ Sft.btl last t1 t2 t3 t4)) := by
  have BEL := hide (show Below W.heap.size W (W.alloc (.cells (stpA ⟨1, (d : Int), toDir, p, name, tu, text⟩) 31)) from (Below.refl _ W).alloc (Nat.le_refl _) _)
  have C1 := hide (Idl.stepFault_any ⟨1, (d : Int), toDir, p, name, tu, text⟩ hn ht hx (W.alloc (.cells (stpA ⟨1, (d : Int), toDir, p, name, tu, text⟩) 31)))
  rw [hck] at C1
  have HC := hide fun W' bW => stp_box W ⟨1, (d : Int), toDir, p, name, tu, text⟩ W' bW
  have M0 := hide ((Bm.start h).call (unhide BEL))
  have GN := hide (show W.heap.size ≠ g from by have := (Array.getElem?_eq_some_iff.1 h).1; omega)
  have RX := hide (heap_alloc_last W (.cells (stpA ⟨1, (d : Int), toDir, p, name, tu, text⟩) 31))
  have HM := hide hm
  have HK := hide hk
  have HFD := hide hfd
  clear h hck hfd hm hk
  simp only [stpA] at C1
  go_enter Tryz.func44, Tryz.ntmps44
  go_wp2_with fail
  refine (unhide C1).mono ?_
  rintro e w1 ⟨rfl, b1⟩
  have M1 := hide ((unhide M0).call b1)
  have HD := hide (b1.trans ((Below.refl w1.heap.size w1).drew.mono b1.size))
  have M2 := hide ((unhide M1).call (Below.refl w1.heap.size w1).drew)
  clear b1 C1 M0 M1
  generalize W.heap.size = gx at *
  go_wp2_with fail
  refine wp_region_held_drew (S := fun W' => HasAt W' g 0 m ∧ W'.cell? ⟨gx, 1, none⟩ = some (.int .i64 (d : Int)) ∧ W'.cell? ⟨gx, 4, none⟩ = some (.string name)) (by kernel_rfl) (⟨(unhide M2).has (unhide HM), unhide HC _ (unhide HD) 1 _ rfl, unhide HC _ (unhide HD) 4 _ rfl⟩) (fun hS => ?_)
  refine tkP (i := 0) (oi := ⟨some 16, .move (.tmp 0), 27, "base.go:507", #[], none⟩) (v := .pointer (some ⟨g, 0, none⟩)) hS ?_
  try simp only [Act.put, z1, z2, z3]
  refine tkP (i := 1) (oi := ⟨some 17, .nilCheck (.tmp 16), 0, "base.go:507", #[⟨0, .data⟩], none⟩) (v := .pointer (some ⟨g, 0, none⟩)) hS ?_
  try simp only [Act.put, z1, z2, z3]
  refine tkP (i := 2) (oi := ⟨some 18, .fieldAddr 55 (.tmp 17) 0, 0, "base.go:507", #[⟨1, .data⟩], none⟩) (v := .pointer (some ⟨g, 0, none⟩)) hS ?_
  try simp only [Act.put, z1, z2, z3]
  refine tkP (i := 3) (oi := ⟨some 19, .fieldAddr 31 (.tmp 3) 1, 0, "base.go:507", #[], none⟩) (v := .pointer (some ⟨gx, 1, none⟩)) hS ?_
  try simp only [Act.put, z1, z2, z3]
  refine tkH (i := 4) (oi := ⟨some 20, .load 3 (.tmp 19), 3, "base.go:507", #[⟨3, .data⟩], none⟩) (v := .int .i64 (d : Int)) (fun W h => Op1.ld_int (.tmp 19) (by kernel_rfl) (by kernel_rfl) W (h.2.1)) hS ?_
  try simp only [Act.put, z1, z2, z3]
  refine tkP (i := 5) (oi := ⟨some 21, .fieldAddr 31 (.tmp 3) 4, 0, "base.go:507", #[], none⟩) (v := .pointer (some ⟨gx, 4, none⟩)) hS ?_
  try simp only [Act.put, z1, z2, z3]
  refine tkH (i := 6) (oi := ⟨some 22, .load 9 (.tmp 21), 9, "base.go:507", #[⟨5, .data⟩], none⟩) (v := .string name) (fun W h => Op1.ld_str (.tmp 21) (by kernel_rfl) (by kernel_rfl) W (h.2.2)) hS ?_
  try simp only [Act.put, z1, z2, z3]
  refine wpAnyH_ready (rs := [7]) (by kernel_rfl) (by simp) ?_
  refine AllReadyH.cons (o := ⟨some 23, .call { callee := .value (.func 53), args := #[.tmp 18, .tmp 20, .tmp 22], argTypes := #[64, 3, 9] }, 3, "base.go:507", #[⟨2, .data⟩, ⟨4, .data⟩, ⟨6, .data⟩], none⟩) rfl (fun K hK => ?_) AllReadyH.nil
  rw [if_pos (by kernel_rfl)]
  go_simp
  refine (rSlotOf_in g m d hd3 name hne _ ((unhide M2).has (unhide HM))).mono ?_
  rintro e w2 ⟨rfl, e9⟩
  rw [e9]
  clear e9 w2
  rw [unhide HFD]
  go_wp2_with fail
  refine hK.out _ _ (hS) (fun hS2 => ?_)
  clear hK K
  try simp only [Act.put, z1, z2, z3]
  refine tkP (i := 8) (oi := ⟨some 6, .assign (.tmp 23), 3, "base.go:507", #[⟨7, .data⟩, ⟨7, .chain⟩, ⟨0, .phase⟩, ⟨1, .phase⟩, ⟨2, .phase⟩, ⟨3, .phase⟩, ⟨4, .phase⟩, ⟨5, .phase⟩, ⟨6, .phase⟩, ⟨7, .phase⟩], none⟩) (v := .int .i64 ((j : Int))) hS2 ?_
  try simp only [Act.put, z1, z2, z3]
  refine wpAnyH_done (by kernel_rfl) ?_ _
  clear hS hS2
  have RV : w1.drew.heap[gx]? = some (.cells (stpA ⟨1, (d : Int), toDir, p, name, tu, text⟩) 31) := by
    rw [(unhide HD).block gx (Array.getElem?_eq_some_iff.1 (unhide RX)).1]; exact unhide RX
  have hgl : gx < w1.drew.heap.size := (Array.getElem?_eq_some_iff.1 RV).1
  have QB := hide (show ∀ (W' : World) (rows : Array Value), Bm w1.drew W' g rows → ∀ j u, (stpA ⟨1, (d : Int), toDir, p, name, tu, text⟩)[j]? = some u → W'.cell? ⟨gx, j, none⟩ = some u from fun W' rows N j u hj => by rw [cell_of_row _ _ _ _ _ _ ((N.chg.block gx hgl (unhide GN)).trans RV)]; exact hj)
  have N2 := hide (Bm.start (unhide M2).row)
  have CM := hide (unhide M2).chg
  clear RV hgl HC HD M2 BEL RX HFD GN
  generalize w1.drew = V at *
  have q0 := unhide QB _ _ (unhide N2) 0 _ rfl
  have jp : decide (0 ≤ (j : Int)) = true := by simp
  go_wp2_with fail
  go_ret
  exact ⟨rfl, (unhide N2).after (unhide CM)⟩
set_option maxHeartbeats 4000000 in
set_option maxRecDepth 100000 in
theorem files0_makeIno (h : W.heap[g]? = some (.cells (cs ++ (ds ++ Sft.btl last t1 t2 t3 t4)) 55)) (hm : IsImg cs m) (hk : IsImg ds k) (toDir p : Int) (name tu text : ByteArray) (hn : name.size ≤ maxLen) (ht : tu.size ≤ maxLen) (hx : text.size ≤ maxLen) {d : Nat} (hd3 : d < 3) (hne : name.toList.isEmpty = false) (hck : chk ⟨1, (d : Int), toDir, p, name, tu, text⟩ = 0) (hfd : m.find d name.toList = -1) (hi : Img.freeIno m k < 0) :
    Calls Tryz.prog 44 #[.pointer (some ⟨g, 0, none⟩), .agg (stpA ⟨1, (d : Int), toDir, p, name, tu, text⟩)] W fun e w' => e = .returned (.int .i64 6) ∧ Bm W w' g (cs ++ (ds ++ Sft.btl last t1 t2 t3 t4)) := by
  have u1 : decide (Img.freeIno m k < 0) = true := by simpa using hi
  have HI := hide hi
  clear hi
  have BEL := hide (show Below W.heap.size W (W.alloc (.cells (stpA ⟨1, (d : Int), toDir, p, name, tu, text⟩) 31)) from (Below.refl _ W).alloc (Nat.le_refl _) _)
  have C1 := hide (Idl.stepFault_any ⟨1, (d : Int), toDir, p, name, tu, text⟩ hn ht hx (W.alloc (.cells (stpA ⟨1, (d : Int), toDir, p, name, tu, text⟩) 31)))
  rw [hck] at C1
  have HC := hide fun W' bW => stp_box W ⟨1, (d : Int), toDir, p, name, tu, text⟩ W' bW
  have M0 := hide ((Bm.start h).call (unhide BEL))
  have GN := hide (show W.heap.size ≠ g from by have := (Array.getElem?_eq_some_iff.1 h).1; omega)
  have RX := hide (heap_alloc_last W (.cells (stpA ⟨1, (d : Int), toDir, p, name, tu, text⟩) 31))
  have HM := hide hm
  have HK := hide hk
  have HFD := hide hfd
  clear h hck hfd hm hk
  simp only [stpA] at C1
  go_enter Tryz.func44, Tryz.ntmps44
  go_wp2_with fail
  refine (unhide C1).mono ?_
  rintro e w1 ⟨rfl, b1⟩
  have M1 := hide ((unhide M0).call b1)
  have HD := hide (b1.trans ((Below.refl w1.heap.size w1).drew.mono b1.size))
  have M2 := hide ((unhide M1).call (Below.refl w1.heap.size w1).drew)
  clear b1 C1 M0 M1
  generalize W.heap.size = gx at *
  go_wp2_with fail
  refine wp_region_held_drew (S := fun W' => HasAt W' g 0 m ∧ W'.cell? ⟨gx, 1, none⟩ = some (.int .i64 (d : Int)) ∧ W'.cell? ⟨gx, 4, none⟩ = some (.string name)) (by kernel_rfl) (⟨(unhide M2).has (unhide HM), unhide HC _ (unhide HD) 1 _ rfl, unhide HC _ (unhide HD) 4 _ rfl⟩) (fun hS => ?_)
  refine tkP (i := 0) (oi := ⟨some 16, .move (.tmp 0), 27, "base.go:507", #[], none⟩) (v := .pointer (some ⟨g, 0, none⟩)) hS ?_
  try simp only [Act.put, z1, z2, z3]
  refine tkP (i := 1) (oi := ⟨some 17, .nilCheck (.tmp 16), 0, "base.go:507", #[⟨0, .data⟩], none⟩) (v := .pointer (some ⟨g, 0, none⟩)) hS ?_
  try simp only [Act.put, z1, z2, z3]
  refine tkP (i := 2) (oi := ⟨some 18, .fieldAddr 55 (.tmp 17) 0, 0, "base.go:507", #[⟨1, .data⟩], none⟩) (v := .pointer (some ⟨g, 0, none⟩)) hS ?_
  try simp only [Act.put, z1, z2, z3]
  refine tkP (i := 3) (oi := ⟨some 19, .fieldAddr 31 (.tmp 3) 1, 0, "base.go:507", #[], none⟩) (v := .pointer (some ⟨gx, 1, none⟩)) hS ?_
  try simp only [Act.put, z1, z2, z3]
  refine tkH (i := 4) (oi := ⟨some 20, .load 3 (.tmp 19), 3, "base.go:507", #[⟨3, .data⟩], none⟩) (v := .int .i64 (d : Int)) (fun W h => Op1.ld_int (.tmp 19) (by kernel_rfl) (by kernel_rfl) W (h.2.1)) hS ?_
  try simp only [Act.put, z1, z2, z3]
  refine tkP (i := 5) (oi := ⟨some 21, .fieldAddr 31 (.tmp 3) 4, 0, "base.go:507", #[], none⟩) (v := .pointer (some ⟨gx, 4, none⟩)) hS ?_
  try simp only [Act.put, z1, z2, z3]
  refine tkH (i := 6) (oi := ⟨some 22, .load 9 (.tmp 21), 9, "base.go:507", #[⟨5, .data⟩], none⟩) (v := .string name) (fun W h => Op1.ld_str (.tmp 21) (by kernel_rfl) (by kernel_rfl) W (h.2.2)) hS ?_
  try simp only [Act.put, z1, z2, z3]
  refine wpAnyH_ready (rs := [7]) (by kernel_rfl) (by simp) ?_
  refine AllReadyH.cons (o := ⟨some 23, .call { callee := .value (.func 53), args := #[.tmp 18, .tmp 20, .tmp 22], argTypes := #[64, 3, 9] }, 3, "base.go:507", #[⟨2, .data⟩, ⟨4, .data⟩, ⟨6, .data⟩], none⟩) rfl (fun K hK => ?_) AllReadyH.nil
  rw [if_pos (by kernel_rfl)]
  go_simp
  refine (rSlotOf_in g m d hd3 name hne _ ((unhide M2).has (unhide HM))).mono ?_
  rintro e w2 ⟨rfl, e9⟩
  rw [e9]
  clear e9 w2
  rw [unhide HFD]
  go_wp2_with fail
  refine hK.out _ _ (hS) (fun hS2 => ?_)
  clear hK K
  try simp only [Act.put, z1, z2, z3]
  refine tkP (i := 8) (oi := ⟨some 6, .assign (.tmp 23), 3, "base.go:507", #[⟨7, .data⟩, ⟨7, .chain⟩, ⟨0, .phase⟩, ⟨1, .phase⟩, ⟨2, .phase⟩, ⟨3, .phase⟩, ⟨4, .phase⟩, ⟨5, .phase⟩, ⟨6, .phase⟩, ⟨7, .phase⟩], none⟩) (v := .int .i64 (-1)) hS2 ?_
  try simp only [Act.put, z1, z2, z3]
  refine wpAnyH_done (by kernel_rfl) ?_ _
  clear hS hS2
  have RV : w1.drew.heap[gx]? = some (.cells (stpA ⟨1, (d : Int), toDir, p, name, tu, text⟩) 31) := by
    rw [(unhide HD).block gx (Array.getElem?_eq_some_iff.1 (unhide RX)).1]; exact unhide RX
  have hgl : gx < w1.drew.heap.size := (Array.getElem?_eq_some_iff.1 RV).1
  have QB := hide (show ∀ (W' : World) (rows : Array Value), Bm w1.drew W' g rows → ∀ j u, (stpA ⟨1, (d : Int), toDir, p, name, tu, text⟩)[j]? = some u → W'.cell? ⟨gx, j, none⟩ = some u from fun W' rows N j u hj => by rw [cell_of_row _ _ _ _ _ _ ((N.chg.block gx hgl (unhide GN)).trans RV)]; exact hj)
  have N2 := hide (Bm.start (unhide M2).row)
  have CM := hide (unhide M2).chg
  clear RV hgl HC HD M2 BEL RX HFD GN
  generalize w1.drew = V at *
  have q0 := unhide QB _ _ (unhide N2) 0 _ rfl
  have CI := hide (bIno_any g m k V ((unhide N2).has (unhide HM)) ((unhide N2).hasD (unhide HM) (unhide HK)))
  generalize Img.freeIno m k = fi at CI HI u1
  clear u1
  go_wp2_with fail
  refine (unhide CI).mono ?_
  rintro e wq ⟨rfl, e9⟩
  rw [e9]
  clear e9 wq
  have u1 : decide (fi < 0) = true := by simpa using unhide HI
  have v1 := unhide HI
  go_wp2_with fail
  go_ret
  exact ⟨rfl, (unhide N2).after (unhide CM)⟩
set_option maxHeartbeats 4000000 in
set_option maxRecDepth 100000 in
theorem files0_makeRoom (h : W.heap[g]? = some (.cells (cs ++ (ds ++ Sft.btl last t1 t2 t3 t4)) 55)) (hm : IsImg cs m) (hk : IsImg ds k) (toDir p : Int) (name tu text : ByteArray) (hn : name.size ≤ maxLen) (ht : tu.size ≤ maxLen) (hx : text.size ≤ maxLen) {d : Nat} (hd3 : d < 3) (hne : name.toList.isEmpty = false) (hck : chk ⟨1, (d : Int), toDir, p, name, tu, text⟩ = 0) (hfd : m.find d name.toList = -1) {n : Nat} (hi : Img.freeIno m k = (n : Int)) (hp : Img.noPlace m k (d : Int) name = true) :
    Calls Tryz.prog 44 #[.pointer (some ⟨g, 0, none⟩), .agg (stpA ⟨1, (d : Int), toDir, p, name, tu, text⟩)] W fun e w' => e = .returned (.int .i64 6) ∧ Bm W w' g (cs ++ (ds ++ Sft.btl last t1 t2 t3 t4)) := by
  have HI := hide hi
  have HP := hide hp
  have nn : decide ((n : Int) < 0) = false := by simp
  clear hi hp
  have BEL := hide (show Below W.heap.size W (W.alloc (.cells (stpA ⟨1, (d : Int), toDir, p, name, tu, text⟩) 31)) from (Below.refl _ W).alloc (Nat.le_refl _) _)
  have C1 := hide (Idl.stepFault_any ⟨1, (d : Int), toDir, p, name, tu, text⟩ hn ht hx (W.alloc (.cells (stpA ⟨1, (d : Int), toDir, p, name, tu, text⟩) 31)))
  rw [hck] at C1
  have HC := hide fun W' bW => stp_box W ⟨1, (d : Int), toDir, p, name, tu, text⟩ W' bW
  have M0 := hide ((Bm.start h).call (unhide BEL))
  have GN := hide (show W.heap.size ≠ g from by have := (Array.getElem?_eq_some_iff.1 h).1; omega)
  have RX := hide (heap_alloc_last W (.cells (stpA ⟨1, (d : Int), toDir, p, name, tu, text⟩) 31))
  have HM := hide hm
  have HK := hide hk
  have HFD := hide hfd
  clear h hck hfd hm hk
  simp only [stpA] at C1
  go_enter Tryz.func44, Tryz.ntmps44
  go_wp2_with fail
  refine (unhide C1).mono ?_
  rintro e w1 ⟨rfl, b1⟩
  have M1 := hide ((unhide M0).call b1)
  have HD := hide (b1.trans ((Below.refl w1.heap.size w1).drew.mono b1.size))
  have M2 := hide ((unhide M1).call (Below.refl w1.heap.size w1).drew)
  clear b1 C1 M0 M1
  generalize W.heap.size = gx at *
  go_wp2_with fail
  refine wp_region_held_drew (S := fun W' => HasAt W' g 0 m ∧ W'.cell? ⟨gx, 1, none⟩ = some (.int .i64 (d : Int)) ∧ W'.cell? ⟨gx, 4, none⟩ = some (.string name)) (by kernel_rfl) (⟨(unhide M2).has (unhide HM), unhide HC _ (unhide HD) 1 _ rfl, unhide HC _ (unhide HD) 4 _ rfl⟩) (fun hS => ?_)
  refine tkP (i := 0) (oi := ⟨some 16, .move (.tmp 0), 27, "base.go:507", #[], none⟩) (v := .pointer (some ⟨g, 0, none⟩)) hS ?_
  try simp only [Act.put, z1, z2, z3]
  refine tkP (i := 1) (oi := ⟨some 17, .nilCheck (.tmp 16), 0, "base.go:507", #[⟨0, .data⟩], none⟩) (v := .pointer (some ⟨g, 0, none⟩)) hS ?_
  try simp only [Act.put, z1, z2, z3]
  refine tkP (i := 2) (oi := ⟨some 18, .fieldAddr 55 (.tmp 17) 0, 0, "base.go:507", #[⟨1, .data⟩], none⟩) (v := .pointer (some ⟨g, 0, none⟩)) hS ?_
  try simp only [Act.put, z1, z2, z3]
  refine tkP (i := 3) (oi := ⟨some 19, .fieldAddr 31 (.tmp 3) 1, 0, "base.go:507", #[], none⟩) (v := .pointer (some ⟨gx, 1, none⟩)) hS ?_
  try simp only [Act.put, z1, z2, z3]
  refine tkH (i := 4) (oi := ⟨some 20, .load 3 (.tmp 19), 3, "base.go:507", #[⟨3, .data⟩], none⟩) (v := .int .i64 (d : Int)) (fun W h => Op1.ld_int (.tmp 19) (by kernel_rfl) (by kernel_rfl) W (h.2.1)) hS ?_
  try simp only [Act.put, z1, z2, z3]
  refine tkP (i := 5) (oi := ⟨some 21, .fieldAddr 31 (.tmp 3) 4, 0, "base.go:507", #[], none⟩) (v := .pointer (some ⟨gx, 4, none⟩)) hS ?_
  try simp only [Act.put, z1, z2, z3]
  refine tkH (i := 6) (oi := ⟨some 22, .load 9 (.tmp 21), 9, "base.go:507", #[⟨5, .data⟩], none⟩) (v := .string name) (fun W h => Op1.ld_str (.tmp 21) (by kernel_rfl) (by kernel_rfl) W (h.2.2)) hS ?_
  try simp only [Act.put, z1, z2, z3]
  refine wpAnyH_ready (rs := [7]) (by kernel_rfl) (by simp) ?_
  refine AllReadyH.cons (o := ⟨some 23, .call { callee := .value (.func 53), args := #[.tmp 18, .tmp 20, .tmp 22], argTypes := #[64, 3, 9] }, 3, "base.go:507", #[⟨2, .data⟩, ⟨4, .data⟩, ⟨6, .data⟩], none⟩) rfl (fun K hK => ?_) AllReadyH.nil
  rw [if_pos (by kernel_rfl)]
  go_simp
  refine (rSlotOf_in g m d hd3 name hne _ ((unhide M2).has (unhide HM))).mono ?_
  rintro e w2 ⟨rfl, e9⟩
  rw [e9]
  clear e9 w2
  rw [unhide HFD]
  go_wp2_with fail
  refine hK.out _ _ (hS) (fun hS2 => ?_)
  clear hK K
  try simp only [Act.put, z1, z2, z3]
  refine tkP (i := 8) (oi := ⟨some 6, .assign (.tmp 23), 3, "base.go:507", #[⟨7, .data⟩, ⟨7, .chain⟩, ⟨0, .phase⟩, ⟨1, .phase⟩, ⟨2, .phase⟩, ⟨3, .phase⟩, ⟨4, .phase⟩, ⟨5, .phase⟩, ⟨6, .phase⟩, ⟨7, .phase⟩], none⟩) (v := .int .i64 (-1)) hS2 ?_
  try simp only [Act.put, z1, z2, z3]
  refine wpAnyH_done (by kernel_rfl) ?_ _
  clear hS hS2
  have RV : w1.drew.heap[gx]? = some (.cells (stpA ⟨1, (d : Int), toDir, p, name, tu, text⟩) 31) := by
    rw [(unhide HD).block gx (Array.getElem?_eq_some_iff.1 (unhide RX)).1]; exact unhide RX
  have hgl : gx < w1.drew.heap.size := (Array.getElem?_eq_some_iff.1 RV).1
  have QB := hide (show ∀ (W' : World) (rows : Array Value), Bm w1.drew W' g rows → ∀ j u, (stpA ⟨1, (d : Int), toDir, p, name, tu, text⟩)[j]? = some u → W'.cell? ⟨gx, j, none⟩ = some u from fun W' rows N j u hj => by rw [cell_of_row _ _ _ _ _ _ ((N.chg.block gx hgl (unhide GN)).trans RV)]; exact hj)
  have N2 := hide (Bm.start (unhide M2).row)
  have CM := hide (unhide M2).chg
  clear RV hgl HC HD M2 BEL RX HFD GN
  generalize w1.drew = V at *
  have q0 := unhide QB _ _ (unhide N2) 0 _ rfl
  have q1 := unhide QB _ _ (unhide N2) 1 _ rfl
  have q4 := unhide QB _ _ (unhide N2) 4 _ rfl
  have CI := hide (bIno_any g m k V ((unhide N2).has (unhide HM)) ((unhide N2).hasD (unhide HM) (unhide HK)))
  rw [unhide HI] at CI
  have CR := hide (Sft.rRoom_any g m k d hd3 name hne V ((unhide N2).has (unhide HM)) ((unhide N2).hasD (unhide HM) (unhide HK)))
  rw [unhide HP] at CR
  go_wp2_with fail
  refine (unhide CI).mono ?_
  rintro e wq ⟨rfl, e9⟩
  rw [e9]
  clear e9 wq
  go_wp2_with fail
  refine (unhide CR).mono ?_
  rintro e w3 ⟨rfl, b3⟩
  have N3 := hide ((unhide N2).call b3)
  clear b3
  go_wp2_with fail
  go_ret
  exact ⟨rfl, (unhide N3).after (unhide CM)⟩
set_option maxHeartbeats 4000000 in
set_option maxRecDepth 100000 in
theorem files0_none (h : W.heap[g]? = some (.cells (cs ++ (ds ++ Sft.btl last t1 t2 t3 t4)) 55)) (hm : IsImg cs m) (hk : IsImg ds k) (kind toDir p : Int) (name tu text : ByteArray) (hn : name.size ≤ maxLen) (ht : tu.size ≤ maxLen) (hx : text.size ≤ maxLen) {d : Nat} (hd3 : d < 3) (hne : name.toList.isEmpty = false) (hck : chk ⟨kind, (d : Int), toDir, p, name, tu, text⟩ = 0) (hfd : m.find d name.toList = -1) (k1 : (kind == 1) = false) :
    Calls Tryz.prog 44 #[.pointer (some ⟨g, 0, none⟩), .agg (stpA ⟨kind, (d : Int), toDir, p, name, tu, text⟩)] W fun e w' => e = .returned (.int .i64 5) ∧ Bm W w' g (cs ++ (ds ++ Sft.btl last t1 t2 t3 t4)) := by
  have BEL := hide (show Below W.heap.size W (W.alloc (.cells (stpA ⟨kind, (d : Int), toDir, p, name, tu, text⟩) 31)) from (Below.refl _ W).alloc (Nat.le_refl _) _)
  have C1 := hide (Idl.stepFault_any ⟨kind, (d : Int), toDir, p, name, tu, text⟩ hn ht hx (W.alloc (.cells (stpA ⟨kind, (d : Int), toDir, p, name, tu, text⟩) 31)))
  rw [hck] at C1
  have HC := hide fun W' bW => stp_box W ⟨kind, (d : Int), toDir, p, name, tu, text⟩ W' bW
  have M0 := hide ((Bm.start h).call (unhide BEL))
  have GN := hide (show W.heap.size ≠ g from by have := (Array.getElem?_eq_some_iff.1 h).1; omega)
  have RX := hide (heap_alloc_last W (.cells (stpA ⟨kind, (d : Int), toDir, p, name, tu, text⟩) 31))
  have HM := hide hm
  have HK := hide hk
  have HFD := hide hfd
  clear h hck hfd hm hk
  simp only [stpA] at C1
  go_enter Tryz.func44, Tryz.ntmps44
  go_wp2_with fail
  refine (unhide C1).mono ?_
  rintro e w1 ⟨rfl, b1⟩
  have M1 := hide ((unhide M0).call b1)
  have HD := hide (b1.trans ((Below.refl w1.heap.size w1).drew.mono b1.size))
  have M2 := hide ((unhide M1).call (Below.refl w1.heap.size w1).drew)
  clear b1 C1 M0 M1
  generalize W.heap.size = gx at *
  go_wp2_with fail
  refine wp_region_held_drew (S := fun W' => HasAt W' g 0 m ∧ W'.cell? ⟨gx, 1, none⟩ = some (.int .i64 (d : Int)) ∧ W'.cell? ⟨gx, 4, none⟩ = some (.string name)) (by kernel_rfl) (⟨(unhide M2).has (unhide HM), unhide HC _ (unhide HD) 1 _ rfl, unhide HC _ (unhide HD) 4 _ rfl⟩) (fun hS => ?_)
  refine tkP (i := 0) (oi := ⟨some 16, .move (.tmp 0), 27, "base.go:507", #[], none⟩) (v := .pointer (some ⟨g, 0, none⟩)) hS ?_
  try simp only [Act.put, z1, z2, z3]
  refine tkP (i := 1) (oi := ⟨some 17, .nilCheck (.tmp 16), 0, "base.go:507", #[⟨0, .data⟩], none⟩) (v := .pointer (some ⟨g, 0, none⟩)) hS ?_
  try simp only [Act.put, z1, z2, z3]
  refine tkP (i := 2) (oi := ⟨some 18, .fieldAddr 55 (.tmp 17) 0, 0, "base.go:507", #[⟨1, .data⟩], none⟩) (v := .pointer (some ⟨g, 0, none⟩)) hS ?_
  try simp only [Act.put, z1, z2, z3]
  refine tkP (i := 3) (oi := ⟨some 19, .fieldAddr 31 (.tmp 3) 1, 0, "base.go:507", #[], none⟩) (v := .pointer (some ⟨gx, 1, none⟩)) hS ?_
  try simp only [Act.put, z1, z2, z3]
  refine tkH (i := 4) (oi := ⟨some 20, .load 3 (.tmp 19), 3, "base.go:507", #[⟨3, .data⟩], none⟩) (v := .int .i64 (d : Int)) (fun W h => Op1.ld_int (.tmp 19) (by kernel_rfl) (by kernel_rfl) W (h.2.1)) hS ?_
  try simp only [Act.put, z1, z2, z3]
  refine tkP (i := 5) (oi := ⟨some 21, .fieldAddr 31 (.tmp 3) 4, 0, "base.go:507", #[], none⟩) (v := .pointer (some ⟨gx, 4, none⟩)) hS ?_
  try simp only [Act.put, z1, z2, z3]
  refine tkH (i := 6) (oi := ⟨some 22, .load 9 (.tmp 21), 9, "base.go:507", #[⟨5, .data⟩], none⟩) (v := .string name) (fun W h => Op1.ld_str (.tmp 21) (by kernel_rfl) (by kernel_rfl) W (h.2.2)) hS ?_
  try simp only [Act.put, z1, z2, z3]
  refine wpAnyH_ready (rs := [7]) (by kernel_rfl) (by simp) ?_
  refine AllReadyH.cons (o := ⟨some 23, .call { callee := .value (.func 53), args := #[.tmp 18, .tmp 20, .tmp 22], argTypes := #[64, 3, 9] }, 3, "base.go:507", #[⟨2, .data⟩, ⟨4, .data⟩, ⟨6, .data⟩], none⟩) rfl (fun K hK => ?_) AllReadyH.nil
  rw [if_pos (by kernel_rfl)]
  go_simp
  refine (rSlotOf_in g m d hd3 name hne _ ((unhide M2).has (unhide HM))).mono ?_
  rintro e w2 ⟨rfl, e9⟩
  rw [e9]
  clear e9 w2
  rw [unhide HFD]
  go_wp2_with fail
  refine hK.out _ _ (hS) (fun hS2 => ?_)
  clear hK K
  try simp only [Act.put, z1, z2, z3]
  refine tkP (i := 8) (oi := ⟨some 6, .assign (.tmp 23), 3, "base.go:507", #[⟨7, .data⟩, ⟨7, .chain⟩, ⟨0, .phase⟩, ⟨1, .phase⟩, ⟨2, .phase⟩, ⟨3, .phase⟩, ⟨4, .phase⟩, ⟨5, .phase⟩, ⟨6, .phase⟩, ⟨7, .phase⟩], none⟩) (v := .int .i64 (-1)) hS2 ?_
  try simp only [Act.put, z1, z2, z3]
  refine wpAnyH_done (by kernel_rfl) ?_ _
  clear hS hS2
  have RV : w1.drew.heap[gx]? = some (.cells (stpA ⟨kind, (d : Int), toDir, p, name, tu, text⟩) 31) := by
    rw [(unhide HD).block gx (Array.getElem?_eq_some_iff.1 (unhide RX)).1]; exact unhide RX
  have hgl : gx < w1.drew.heap.size := (Array.getElem?_eq_some_iff.1 RV).1
  have QB := hide (show ∀ (W' : World) (rows : Array Value), Bm w1.drew W' g rows → ∀ j u, (stpA ⟨kind, (d : Int), toDir, p, name, tu, text⟩)[j]? = some u → W'.cell? ⟨gx, j, none⟩ = some u from fun W' rows N j u hj => by rw [cell_of_row _ _ _ _ _ _ ((N.chg.block gx hgl (unhide GN)).trans RV)]; exact hj)
  have N2 := hide (Bm.start (unhide M2).row)
  have CM := hide (unhide M2).chg
  clear RV hgl HC HD M2 BEL RX HFD GN
  generalize w1.drew = V at *
  have q0 := unhide QB _ _ (unhide N2) 0 _ rfl
  go_wp2_with fail
  go_ret
  exact ⟨rfl, (unhide N2).after (unhide CM)⟩
set_option maxHeartbeats 4000000 in
set_option maxRecDepth 100000 in
theorem files0_linkThere (h : W.heap[g]? = some (.cells (cs ++ (ds ++ Sft.btl last t1 t2 t3 t4)) 55)) (hm : IsImg cs m) (hk : IsImg ds k) (p : Int) {dd : Nat} (hdd : dd < 3) (name tu text : ByteArray) (hn : name.size ≤ maxLen) (ht : tu.size ≤ maxLen) (hx : text.size ≤ maxLen) {d : Nat} (hd3 : d < 3) (hne : name.toList.isEmpty = false) (hck : chk ⟨2, (d : Int), (dd : Int), p, name, tu, text⟩ = 0) {j n : Nat} (hfd : m.find d name.toList = (j : Int)) (hj4 : j < 4) (hn8 : n < 8) (hino : m.ino d j = (n : Int)) (htne : tu.toList.isEmpty = false) {jt : Nat} (hft : m.find dd tu.toList = (jt : Int)) :
    Calls Tryz.prog 44 #[.pointer (some ⟨g, 0, none⟩), .agg (stpA ⟨2, (d : Int), (dd : Int), p, name, tu, text⟩)] W fun e w' => e = .returned (.int .i64 4) ∧ Bm W w' g (cs ++ (ds ++ Sft.btl last t1 t2 t3 t4)) := by
  have HI := hide hino
  have jn : decide ((j : Int) < 0) = false := by simp
  have nz : (n : Int) < 8 := by omega
  clear hino
  have HFT := hide hft
  clear hft
  have BEL := hide (show Below W.heap.size W (W.alloc (.cells (stpA ⟨2, (d : Int), (dd : Int), p, name, tu, text⟩) 31)) from (Below.refl _ W).alloc (Nat.le_refl _) _)
  have C1 := hide (Idl.stepFault_any ⟨2, (d : Int), (dd : Int), p, name, tu, text⟩ hn ht hx (W.alloc (.cells (stpA ⟨2, (d : Int), (dd : Int), p, name, tu, text⟩) 31)))
  rw [hck] at C1
  have HC := hide fun W' bW => stp_box W ⟨2, (d : Int), (dd : Int), p, name, tu, text⟩ W' bW
  have M0 := hide ((Bm.start h).call (unhide BEL))
  have GN := hide (show W.heap.size ≠ g from by have := (Array.getElem?_eq_some_iff.1 h).1; omega)
  have RX := hide (heap_alloc_last W (.cells (stpA ⟨2, (d : Int), (dd : Int), p, name, tu, text⟩) 31))
  have HM := hide hm
  have HK := hide hk
  have HFD := hide hfd
  clear h hck hfd hm hk
  simp only [stpA] at C1
  go_enter Tryz.func44, Tryz.ntmps44
  go_wp2_with fail
  refine (unhide C1).mono ?_
  rintro e w1 ⟨rfl, b1⟩
  have M1 := hide ((unhide M0).call b1)
  have HD := hide (b1.trans ((Below.refl w1.heap.size w1).drew.mono b1.size))
  have M2 := hide ((unhide M1).call (Below.refl w1.heap.size w1).drew)
  clear b1 C1 M0 M1
  generalize W.heap.size = gx at *
  go_wp2_with fail
  refine wp_region_held_drew (S := fun W' => HasAt W' g 0 m ∧ W'.cell? ⟨gx, 1, none⟩ = some (.int .i64 (d : Int)) ∧ W'.cell? ⟨gx, 4, none⟩ = some (.string name)) (by kernel_rfl) (⟨(unhide M2).has (unhide HM), unhide HC _ (unhide HD) 1 _ rfl, unhide HC _ (unhide HD) 4 _ rfl⟩) (fun hS => ?_)
  refine tkP (i := 0) (oi := ⟨some 16, .move (.tmp 0), 27, "base.go:507", #[], none⟩) (v := .pointer (some ⟨g, 0, none⟩)) hS ?_
  try simp only [Act.put, z1, z2, z3]
  refine tkP (i := 1) (oi := ⟨some 17, .nilCheck (.tmp 16), 0, "base.go:507", #[⟨0, .data⟩], none⟩) (v := .pointer (some ⟨g, 0, none⟩)) hS ?_
  try simp only [Act.put, z1, z2, z3]
  refine tkP (i := 2) (oi := ⟨some 18, .fieldAddr 55 (.tmp 17) 0, 0, "base.go:507", #[⟨1, .data⟩], none⟩) (v := .pointer (some ⟨g, 0, none⟩)) hS ?_
  try simp only [Act.put, z1, z2, z3]
  refine tkP (i := 3) (oi := ⟨some 19, .fieldAddr 31 (.tmp 3) 1, 0, "base.go:507", #[], none⟩) (v := .pointer (some ⟨gx, 1, none⟩)) hS ?_
  try simp only [Act.put, z1, z2, z3]
  refine tkH (i := 4) (oi := ⟨some 20, .load 3 (.tmp 19), 3, "base.go:507", #[⟨3, .data⟩], none⟩) (v := .int .i64 (d : Int)) (fun W h => Op1.ld_int (.tmp 19) (by kernel_rfl) (by kernel_rfl) W (h.2.1)) hS ?_
  try simp only [Act.put, z1, z2, z3]
  refine tkP (i := 5) (oi := ⟨some 21, .fieldAddr 31 (.tmp 3) 4, 0, "base.go:507", #[], none⟩) (v := .pointer (some ⟨gx, 4, none⟩)) hS ?_
  try simp only [Act.put, z1, z2, z3]
  refine tkH (i := 6) (oi := ⟨some 22, .load 9 (.tmp 21), 9, "base.go:507", #[⟨5, .data⟩], none⟩) (v := .string name) (fun W h => Op1.ld_str (.tmp 21) (by kernel_rfl) (by kernel_rfl) W (h.2.2)) hS ?_
  try simp only [Act.put, z1, z2, z3]
  refine wpAnyH_ready (rs := [7]) (by kernel_rfl) (by simp) ?_
  refine AllReadyH.cons (o := ⟨some 23, .call { callee := .value (.func 53), args := #[.tmp 18, .tmp 20, .tmp 22], argTypes := #[64, 3, 9] }, 3, "base.go:507", #[⟨2, .data⟩, ⟨4, .data⟩, ⟨6, .data⟩], none⟩) rfl (fun K hK => ?_) AllReadyH.nil
  rw [if_pos (by kernel_rfl)]
  go_simp
  refine (rSlotOf_in g m d hd3 name hne _ ((unhide M2).has (unhide HM))).mono ?_
  rintro e w2 ⟨rfl, e9⟩
  rw [e9]
  clear e9 w2
  rw [unhide HFD]
  go_wp2_with fail
  refine hK.out _ _ (hS) (fun hS2 => ?_)
  clear hK K
  try simp only [Act.put, z1, z2, z3]
  refine tkP (i := 8) (oi := ⟨some 6, .assign (.tmp 23), 3, "base.go:507", #[⟨7, .data⟩, ⟨7, .chain⟩, ⟨0, .phase⟩, ⟨1, .phase⟩, ⟨2, .phase⟩, ⟨3, .phase⟩, ⟨4, .phase⟩, ⟨5, .phase⟩, ⟨6, .phase⟩, ⟨7, .phase⟩], none⟩) (v := .int .i64 ((j : Int))) hS2 ?_
  try simp only [Act.put, z1, z2, z3]
  refine wpAnyH_done (by kernel_rfl) ?_ _
  clear hS hS2
  have RV : w1.drew.heap[gx]? = some (.cells (stpA ⟨2, (d : Int), (dd : Int), p, name, tu, text⟩) 31) := by
    rw [(unhide HD).block gx (Array.getElem?_eq_some_iff.1 (unhide RX)).1]; exact unhide RX
  have hgl : gx < w1.drew.heap.size := (Array.getElem?_eq_some_iff.1 RV).1
  have QB := hide (show ∀ (W' : World) (rows : Array Value), Bm w1.drew W' g rows → ∀ j u, (stpA ⟨2, (d : Int), (dd : Int), p, name, tu, text⟩)[j]? = some u → W'.cell? ⟨gx, j, none⟩ = some u from fun W' rows N j u hj => by rw [cell_of_row _ _ _ _ _ _ ((N.chg.block gx hgl (unhide GN)).trans RV)]; exact hj)
  have N2 := hide (Bm.start (unhide M2).row)
  have CM := hide (unhide M2).chg
  clear RV hgl HC HD M2 BEL RX HFD GN
  generalize w1.drew = V at *
  have q0 := unhide QB _ _ (unhide N2) 0 _ rfl
  have N3 := hide ((unhide N2).call (Below.refl _ _).drew)
  go_wp2_with fail
  refine wp_region_held_drew (S := fun W' => HasAt W' g 0 m ∧ W'.cell? ⟨gx, 1, none⟩ = some (.int .i64 (d : Int))) (by kernel_rfl) (⟨(unhide N3).has (unhide HM), unhide QB _ _ (unhide N3) 1 _ rfl⟩) (fun hS => ?_)
  refine tkP (i := 0) (oi := ⟨some 83, .move (.tmp 0), 27, "base.go:526", #[], none⟩) (v := .pointer (some ⟨g, 0, none⟩)) hS ?_
  try simp only [Act.put, z1, z2, z3]
  refine tkP (i := 1) (oi := ⟨some 84, .fieldAddr 31 (.tmp 3) 1, 0, "base.go:526", #[], none⟩) (v := .pointer (some ⟨gx, 1, none⟩)) hS ?_
  try simp only [Act.put, z1, z2, z3]
  refine tkH (i := 2) (oi := ⟨some 85, .load 3 (.tmp 84), 3, "base.go:526", #[⟨1, .data⟩], none⟩) (v := .int .i64 (d : Int)) (fun W h => Op1.ld_int (.tmp 84) (by kernel_rfl) (by kernel_rfl) W (h.2)) hS ?_
  try simp only [Act.put, z1, z2, z3]
  refine tkP (i := 3) (oi := ⟨some 86, .move (.tmp 6), 3, "base.go:526", #[], none⟩) (v := .int .i64 (j : Int)) hS ?_
  try simp only [Act.put, z1, z2, z3]
  refine tkP (i := 4) (oi := ⟨some 87, .nilCheck (.tmp 83), 0, "base.go:526", #[⟨0, .data⟩], none⟩) (v := .pointer (some ⟨g, 0, none⟩)) hS ?_
  try simp only [Act.put, z1, z2, z3]
  refine tkP (i := 5) (oi := ⟨some 88, .fieldAddr 55 (.tmp 87) 0, 0, "base.go:526", #[⟨4, .data⟩], none⟩) (v := .pointer (some ⟨g, 0, none⟩)) hS ?_
  try simp only [Act.put, z1, z2, z3]
  refine tkP (i := 6) (oi := ⟨some 89, .fieldAddr 44 (.tmp 88) 1, 0, "base.go:526", #[⟨5, .data⟩], none⟩) (v := .pointer (some ⟨g, 40, none⟩)) hS ?_
  try simp only [Act.put, z1, z2, z3]
  refine tkH (i := 7) (oi := ⟨some 90, .indexAddr 39 (.tmp 89) (.tmp 85), 0, "base.go:526", #[⟨6, .data⟩, ⟨2, .data⟩], none⟩) (v := .pointer (some ⟨g, 40 + d * 12, none⟩)) (fun W h => Op1.ix_dir (.tmp 89) (.tmp 85) (by kernel_rfl) (by kernel_rfl) (by kernel_rfl) (hd3) W) hS ?_
  try simp only [Act.put, z1, z2, z3]
  refine tkH (i := 8) (oi := ⟨some 91, .indexAddr 38 (.tmp 90) (.tmp 86), 0, "base.go:526", #[⟨7, .data⟩, ⟨3, .data⟩], none⟩) (v := .pointer (some ⟨g, 40 + d * 12 + j * 3, none⟩)) (fun W h => Op1.ix_slot (.tmp 90) (.tmp 86) (by kernel_rfl) (by kernel_rfl) (by kernel_rfl) (hj4) W) hS ?_
  try simp only [Act.put, z1, z2, z3]
  refine tkP (i := 9) (oi := ⟨some 92, .fieldAddr 37 (.tmp 91) 1, 0, "base.go:526", #[⟨8, .data⟩], none⟩) (v := .pointer (some ⟨g, 40 + d * 12 + j * 3 + 1, none⟩)) hS ?_
  try simp only [Act.put, z1, z2, z3]
  refine tkH (i := 10) (oi := ⟨some 93, .load 3 (.tmp 92), 3, "base.go:526", #[⟨9, .data⟩], none⟩) (v := .int .i64 (n : Int)) (fun W h => Op1.ld_int (.tmp 92) (by kernel_rfl) (by kernel_rfl) W (by have := h.1.ino d j hd3 hj4; rw [unhide HI, Nat.zero_add] at this; exact this)) hS ?_
  try simp only [Act.put, z1, z2, z3]
  refine tkP (i := 11) (oi := ⟨some 8, .assign (.tmp 93), 3, "base.go:526", #[⟨10, .data⟩, ⟨0, .phase⟩, ⟨1, .phase⟩, ⟨2, .phase⟩, ⟨3, .phase⟩, ⟨4, .phase⟩, ⟨5, .phase⟩, ⟨6, .phase⟩, ⟨7, .phase⟩, ⟨8, .phase⟩, ⟨9, .phase⟩, ⟨10, .phase⟩], none⟩) (v := .int .i64 (n : Int)) hS ?_
  try simp only [Act.put, z1, z2, z3]
  refine wpAnyH_done (by kernel_rfl) ?_ _
  clear hS q0 N2 jn
  generalize V.drew = V1 at *
  have q0 := unhide QB _ _ (unhide N3) 0 _ rfl
  have N4 := hide ((unhide N3).call (Below.refl _ _).drew)
  go_wp2_with fail
  refine wp_region_held_drew (S := fun W' => HasAt W' g 0 m ∧ W'.cell? ⟨gx, 2, none⟩ = some (.int .i64 (dd : Int)) ∧ W'.cell? ⟨gx, 5, none⟩ = some (.string tu)) (by kernel_rfl) (⟨(unhide N4).has (unhide HM), unhide QB _ _ (unhide N4) 2 _ rfl, unhide QB _ _ (unhide N4) 5 _ rfl⟩) (fun hS => ?_)
  refine tkP (i := 0) (oi := ⟨some 108, .move (.tmp 0), 27, "base.go:529", #[], none⟩) (v := .pointer (some ⟨g, 0, none⟩)) hS ?_
  try simp only [Act.put, z1, z2, z3]
  refine tkP (i := 1) (oi := ⟨some 109, .nilCheck (.tmp 108), 0, "base.go:529", #[⟨0, .data⟩], none⟩) (v := .pointer (some ⟨g, 0, none⟩)) hS ?_
  try simp only [Act.put, z1, z2, z3]
  refine tkP (i := 2) (oi := ⟨some 110, .fieldAddr 55 (.tmp 109) 0, 0, "base.go:529", #[⟨1, .data⟩], none⟩) (v := .pointer (some ⟨g, 0, none⟩)) hS ?_
  try simp only [Act.put, z1, z2, z3]
  refine tkP (i := 3) (oi := ⟨some 111, .fieldAddr 31 (.tmp 3) 2, 0, "base.go:529", #[], none⟩) (v := .pointer (some ⟨gx, 2, none⟩)) hS ?_
  try simp only [Act.put, z1, z2, z3]
  refine tkH (i := 4) (oi := ⟨some 112, .load 3 (.tmp 111), 3, "base.go:529", #[⟨3, .data⟩], none⟩) (v := .int .i64 (dd : Int)) (fun W h => Op1.ld_int (.tmp 111) (by kernel_rfl) (by kernel_rfl) W (h.2.1)) hS ?_
  try simp only [Act.put, z1, z2, z3]
  refine tkP (i := 5) (oi := ⟨some 113, .fieldAddr 31 (.tmp 3) 5, 0, "base.go:529", #[], none⟩) (v := .pointer (some ⟨gx, 5, none⟩)) hS ?_
  try simp only [Act.put, z1, z2, z3]
  refine tkH (i := 6) (oi := ⟨some 114, .load 9 (.tmp 113), 9, "base.go:529", #[⟨5, .data⟩], none⟩) (v := .string tu) (fun W h => Op1.ld_str (.tmp 113) (by kernel_rfl) (by kernel_rfl) W (h.2.2)) hS ?_
  try simp only [Act.put, z1, z2, z3]
  refine wpAnyH_ready (rs := [7]) (by kernel_rfl) (by simp) ?_
  refine AllReadyH.cons (o := ⟨some 115, .call { callee := .value (.func 53), args := #[.tmp 110, .tmp 112, .tmp 114], argTypes := #[64, 3, 9] }, 3, "base.go:529", #[⟨2, .data⟩, ⟨4, .data⟩, ⟨6, .data⟩], none⟩) rfl (fun K hK => ?_) AllReadyH.nil
  rw [if_pos (by kernel_rfl)]
  go_simp
  refine (rSlotOf_in g m dd hdd tu htne _ ((unhide N4).has (unhide HM))).mono ?_
  rintro e w2 ⟨rfl, e9⟩
  rw [e9]
  clear e9 w2
  rw [unhide HFT]
  go_wp2_with fail
  refine hK.out _ _ (hS) (fun hS2 => ?_)
  clear hK K
  try simp only [Act.put, z1, z2, z3]
  refine tkH (i := 8) (oi := ⟨some 116, .binOp .geq 3 (.tmp 115) (.const (.int .i64 0)) 3, 4, "base.go:529", #[⟨7, .data⟩], none⟩) (v := .bool true) (fun W h => Op1.geq0t (j := jt) (.tmp 115) (by kernel_rfl) (by kernel_rfl) (by kernel_rfl) W) hS2 ?_
  try simp only [Act.put, z1, z2, z3]
  refine wpAnyH_done (by kernel_rfl) ?_ _
  clear hS hS2 q0 nz
  generalize V1.drew = V2 at *
  go_wp2_with fail
  go_ret
  exact ⟨rfl, (unhide N4).after (unhide CM)⟩
set_option maxHeartbeats 4000000 in
set_option maxRecDepth 100000 in
theorem files0_linkRoom (h : W.heap[g]? = some (.cells (cs ++ (ds ++ Sft.btl last t1 t2 t3 t4)) 55)) (hm : IsImg cs m) (hk : IsImg ds k) (p : Int) {dd : Nat} (hdd : dd < 3) (name tu text : ByteArray) (hn : name.size ≤ maxLen) (ht : tu.size ≤ maxLen) (hx : text.size ≤ maxLen) {d : Nat} (hd3 : d < 3) (hne : name.toList.isEmpty = false) (hck : chk ⟨2, (d : Int), (dd : Int), p, name, tu, text⟩ = 0) {j n : Nat} (hfd : m.find d name.toList = (j : Int)) (hj4 : j < 4) (hn8 : n < 8) (hino : m.ino d j = (n : Int)) (htne : tu.toList.isEmpty = false) (hft : m.find dd tu.toList = -1) (hp : Img.noPlace m k (dd : Int) tu = true) :
    Calls Tryz.prog 44 #[.pointer (some ⟨g, 0, none⟩), .agg (stpA ⟨2, (d : Int), (dd : Int), p, name, tu, text⟩)] W fun e w' => e = .returned (.int .i64 6) ∧ Bm W w' g (cs ++ (ds ++ Sft.btl last t1 t2 t3 t4)) := by
  have HI := hide hino
  have jn : decide ((j : Int) < 0) = false := by simp
  have nz : (n : Int) < 8 := by omega
  clear hino
  have HFT := hide hft
  have HP := hide hp
  clear hft hp
  have BEL := hide (show Below W.heap.size W (W.alloc (.cells (stpA ⟨2, (d : Int), (dd : Int), p, name, tu, text⟩) 31)) from (Below.refl _ W).alloc (Nat.le_refl _) _)
  have C1 := hide (Idl.stepFault_any ⟨2, (d : Int), (dd : Int), p, name, tu, text⟩ hn ht hx (W.alloc (.cells (stpA ⟨2, (d : Int), (dd : Int), p, name, tu, text⟩) 31)))
  rw [hck] at C1
  have HC := hide fun W' bW => stp_box W ⟨2, (d : Int), (dd : Int), p, name, tu, text⟩ W' bW
  have M0 := hide ((Bm.start h).call (unhide BEL))
  have GN := hide (show W.heap.size ≠ g from by have := (Array.getElem?_eq_some_iff.1 h).1; omega)
  have RX := hide (heap_alloc_last W (.cells (stpA ⟨2, (d : Int), (dd : Int), p, name, tu, text⟩) 31))
  have HM := hide hm
  have HK := hide hk
  have HFD := hide hfd
  clear h hck hfd hm hk
  simp only [stpA] at C1
  go_enter Tryz.func44, Tryz.ntmps44
  go_wp2_with fail
  refine (unhide C1).mono ?_
  rintro e w1 ⟨rfl, b1⟩
  have M1 := hide ((unhide M0).call b1)
  have HD := hide (b1.trans ((Below.refl w1.heap.size w1).drew.mono b1.size))
  have M2 := hide ((unhide M1).call (Below.refl w1.heap.size w1).drew)
  clear b1 C1 M0 M1
  generalize W.heap.size = gx at *
  go_wp2_with fail
  refine wp_region_held_drew (S := fun W' => HasAt W' g 0 m ∧ W'.cell? ⟨gx, 1, none⟩ = some (.int .i64 (d : Int)) ∧ W'.cell? ⟨gx, 4, none⟩ = some (.string name)) (by kernel_rfl) (⟨(unhide M2).has (unhide HM), unhide HC _ (unhide HD) 1 _ rfl, unhide HC _ (unhide HD) 4 _ rfl⟩) (fun hS => ?_)
  refine tkP (i := 0) (oi := ⟨some 16, .move (.tmp 0), 27, "base.go:507", #[], none⟩) (v := .pointer (some ⟨g, 0, none⟩)) hS ?_
  try simp only [Act.put, z1, z2, z3]
  refine tkP (i := 1) (oi := ⟨some 17, .nilCheck (.tmp 16), 0, "base.go:507", #[⟨0, .data⟩], none⟩) (v := .pointer (some ⟨g, 0, none⟩)) hS ?_
  try simp only [Act.put, z1, z2, z3]
  refine tkP (i := 2) (oi := ⟨some 18, .fieldAddr 55 (.tmp 17) 0, 0, "base.go:507", #[⟨1, .data⟩], none⟩) (v := .pointer (some ⟨g, 0, none⟩)) hS ?_
  try simp only [Act.put, z1, z2, z3]
  refine tkP (i := 3) (oi := ⟨some 19, .fieldAddr 31 (.tmp 3) 1, 0, "base.go:507", #[], none⟩) (v := .pointer (some ⟨gx, 1, none⟩)) hS ?_
  try simp only [Act.put, z1, z2, z3]
  refine tkH (i := 4) (oi := ⟨some 20, .load 3 (.tmp 19), 3, "base.go:507", #[⟨3, .data⟩], none⟩) (v := .int .i64 (d : Int)) (fun W h => Op1.ld_int (.tmp 19) (by kernel_rfl) (by kernel_rfl) W (h.2.1)) hS ?_
  try simp only [Act.put, z1, z2, z3]
  refine tkP (i := 5) (oi := ⟨some 21, .fieldAddr 31 (.tmp 3) 4, 0, "base.go:507", #[], none⟩) (v := .pointer (some ⟨gx, 4, none⟩)) hS ?_
  try simp only [Act.put, z1, z2, z3]
  refine tkH (i := 6) (oi := ⟨some 22, .load 9 (.tmp 21), 9, "base.go:507", #[⟨5, .data⟩], none⟩) (v := .string name) (fun W h => Op1.ld_str (.tmp 21) (by kernel_rfl) (by kernel_rfl) W (h.2.2)) hS ?_
  try simp only [Act.put, z1, z2, z3]
  refine wpAnyH_ready (rs := [7]) (by kernel_rfl) (by simp) ?_
  refine AllReadyH.cons (o := ⟨some 23, .call { callee := .value (.func 53), args := #[.tmp 18, .tmp 20, .tmp 22], argTypes := #[64, 3, 9] }, 3, "base.go:507", #[⟨2, .data⟩, ⟨4, .data⟩, ⟨6, .data⟩], none⟩) rfl (fun K hK => ?_) AllReadyH.nil
  rw [if_pos (by kernel_rfl)]
  go_simp
  refine (rSlotOf_in g m d hd3 name hne _ ((unhide M2).has (unhide HM))).mono ?_
  rintro e w2 ⟨rfl, e9⟩
  rw [e9]
  clear e9 w2
  rw [unhide HFD]
  go_wp2_with fail
  refine hK.out _ _ (hS) (fun hS2 => ?_)
  clear hK K
  try simp only [Act.put, z1, z2, z3]
  refine tkP (i := 8) (oi := ⟨some 6, .assign (.tmp 23), 3, "base.go:507", #[⟨7, .data⟩, ⟨7, .chain⟩, ⟨0, .phase⟩, ⟨1, .phase⟩, ⟨2, .phase⟩, ⟨3, .phase⟩, ⟨4, .phase⟩, ⟨5, .phase⟩, ⟨6, .phase⟩, ⟨7, .phase⟩], none⟩) (v := .int .i64 ((j : Int))) hS2 ?_
  try simp only [Act.put, z1, z2, z3]
  refine wpAnyH_done (by kernel_rfl) ?_ _
  clear hS hS2
  have RV : w1.drew.heap[gx]? = some (.cells (stpA ⟨2, (d : Int), (dd : Int), p, name, tu, text⟩) 31) := by
    rw [(unhide HD).block gx (Array.getElem?_eq_some_iff.1 (unhide RX)).1]; exact unhide RX
  have hgl : gx < w1.drew.heap.size := (Array.getElem?_eq_some_iff.1 RV).1
  have QB := hide (show ∀ (W' : World) (rows : Array Value), Bm w1.drew W' g rows → ∀ j u, (stpA ⟨2, (d : Int), (dd : Int), p, name, tu, text⟩)[j]? = some u → W'.cell? ⟨gx, j, none⟩ = some u from fun W' rows N j u hj => by rw [cell_of_row _ _ _ _ _ _ ((N.chg.block gx hgl (unhide GN)).trans RV)]; exact hj)
  have N2 := hide (Bm.start (unhide M2).row)
  have CM := hide (unhide M2).chg
  clear RV hgl HC HD M2 BEL RX HFD GN
  generalize w1.drew = V at *
  have q0 := unhide QB _ _ (unhide N2) 0 _ rfl
  have N3 := hide ((unhide N2).call (Below.refl _ _).drew)
  go_wp2_with fail
  refine wp_region_held_drew (S := fun W' => HasAt W' g 0 m ∧ W'.cell? ⟨gx, 1, none⟩ = some (.int .i64 (d : Int))) (by kernel_rfl) (⟨(unhide N3).has (unhide HM), unhide QB _ _ (unhide N3) 1 _ rfl⟩) (fun hS => ?_)
  refine tkP (i := 0) (oi := ⟨some 83, .move (.tmp 0), 27, "base.go:526", #[], none⟩) (v := .pointer (some ⟨g, 0, none⟩)) hS ?_
  try simp only [Act.put, z1, z2, z3]
  refine tkP (i := 1) (oi := ⟨some 84, .fieldAddr 31 (.tmp 3) 1, 0, "base.go:526", #[], none⟩) (v := .pointer (some ⟨gx, 1, none⟩)) hS ?_
  try simp only [Act.put, z1, z2, z3]
  refine tkH (i := 2) (oi := ⟨some 85, .load 3 (.tmp 84), 3, "base.go:526", #[⟨1, .data⟩], none⟩) (v := .int .i64 (d : Int)) (fun W h => Op1.ld_int (.tmp 84) (by kernel_rfl) (by kernel_rfl) W (h.2)) hS ?_
  try simp only [Act.put, z1, z2, z3]
  refine tkP (i := 3) (oi := ⟨some 86, .move (.tmp 6), 3, "base.go:526", #[], none⟩) (v := .int .i64 (j : Int)) hS ?_
  try simp only [Act.put, z1, z2, z3]
  refine tkP (i := 4) (oi := ⟨some 87, .nilCheck (.tmp 83), 0, "base.go:526", #[⟨0, .data⟩], none⟩) (v := .pointer (some ⟨g, 0, none⟩)) hS ?_
  try simp only [Act.put, z1, z2, z3]
  refine tkP (i := 5) (oi := ⟨some 88, .fieldAddr 55 (.tmp 87) 0, 0, "base.go:526", #[⟨4, .data⟩], none⟩) (v := .pointer (some ⟨g, 0, none⟩)) hS ?_
  try simp only [Act.put, z1, z2, z3]
  refine tkP (i := 6) (oi := ⟨some 89, .fieldAddr 44 (.tmp 88) 1, 0, "base.go:526", #[⟨5, .data⟩], none⟩) (v := .pointer (some ⟨g, 40, none⟩)) hS ?_
  try simp only [Act.put, z1, z2, z3]
  refine tkH (i := 7) (oi := ⟨some 90, .indexAddr 39 (.tmp 89) (.tmp 85), 0, "base.go:526", #[⟨6, .data⟩, ⟨2, .data⟩], none⟩) (v := .pointer (some ⟨g, 40 + d * 12, none⟩)) (fun W h => Op1.ix_dir (.tmp 89) (.tmp 85) (by kernel_rfl) (by kernel_rfl) (by kernel_rfl) (hd3) W) hS ?_
  try simp only [Act.put, z1, z2, z3]
  refine tkH (i := 8) (oi := ⟨some 91, .indexAddr 38 (.tmp 90) (.tmp 86), 0, "base.go:526", #[⟨7, .data⟩, ⟨3, .data⟩], none⟩) (v := .pointer (some ⟨g, 40 + d * 12 + j * 3, none⟩)) (fun W h => Op1.ix_slot (.tmp 90) (.tmp 86) (by kernel_rfl) (by kernel_rfl) (by kernel_rfl) (hj4) W) hS ?_
  try simp only [Act.put, z1, z2, z3]
  refine tkP (i := 9) (oi := ⟨some 92, .fieldAddr 37 (.tmp 91) 1, 0, "base.go:526", #[⟨8, .data⟩], none⟩) (v := .pointer (some ⟨g, 40 + d * 12 + j * 3 + 1, none⟩)) hS ?_
  try simp only [Act.put, z1, z2, z3]
  refine tkH (i := 10) (oi := ⟨some 93, .load 3 (.tmp 92), 3, "base.go:526", #[⟨9, .data⟩], none⟩) (v := .int .i64 (n : Int)) (fun W h => Op1.ld_int (.tmp 92) (by kernel_rfl) (by kernel_rfl) W (by have := h.1.ino d j hd3 hj4; rw [unhide HI, Nat.zero_add] at this; exact this)) hS ?_
  try simp only [Act.put, z1, z2, z3]
  refine tkP (i := 11) (oi := ⟨some 8, .assign (.tmp 93), 3, "base.go:526", #[⟨10, .data⟩, ⟨0, .phase⟩, ⟨1, .phase⟩, ⟨2, .phase⟩, ⟨3, .phase⟩, ⟨4, .phase⟩, ⟨5, .phase⟩, ⟨6, .phase⟩, ⟨7, .phase⟩, ⟨8, .phase⟩, ⟨9, .phase⟩, ⟨10, .phase⟩], none⟩) (v := .int .i64 (n : Int)) hS ?_
  try simp only [Act.put, z1, z2, z3]
  refine wpAnyH_done (by kernel_rfl) ?_ _
  clear hS q0 N2 jn
  generalize V.drew = V1 at *
  have q0 := unhide QB _ _ (unhide N3) 0 _ rfl
  have N4 := hide ((unhide N3).call (Below.refl _ _).drew)
  go_wp2_with fail
  refine wp_region_held_drew (S := fun W' => HasAt W' g 0 m ∧ W'.cell? ⟨gx, 2, none⟩ = some (.int .i64 (dd : Int)) ∧ W'.cell? ⟨gx, 5, none⟩ = some (.string tu)) (by kernel_rfl) (⟨(unhide N4).has (unhide HM), unhide QB _ _ (unhide N4) 2 _ rfl, unhide QB _ _ (unhide N4) 5 _ rfl⟩) (fun hS => ?_)
  refine tkP (i := 0) (oi := ⟨some 108, .move (.tmp 0), 27, "base.go:529", #[], none⟩) (v := .pointer (some ⟨g, 0, none⟩)) hS ?_
  try simp only [Act.put, z1, z2, z3]
  refine tkP (i := 1) (oi := ⟨some 109, .nilCheck (.tmp 108), 0, "base.go:529", #[⟨0, .data⟩], none⟩) (v := .pointer (some ⟨g, 0, none⟩)) hS ?_
  try simp only [Act.put, z1, z2, z3]
  refine tkP (i := 2) (oi := ⟨some 110, .fieldAddr 55 (.tmp 109) 0, 0, "base.go:529", #[⟨1, .data⟩], none⟩) (v := .pointer (some ⟨g, 0, none⟩)) hS ?_
  try simp only [Act.put, z1, z2, z3]
  refine tkP (i := 3) (oi := ⟨some 111, .fieldAddr 31 (.tmp 3) 2, 0, "base.go:529", #[], none⟩) (v := .pointer (some ⟨gx, 2, none⟩)) hS ?_
  try simp only [Act.put, z1, z2, z3]
  refine tkH (i := 4) (oi := ⟨some 112, .load 3 (.tmp 111), 3, "base.go:529", #[⟨3, .data⟩], none⟩) (v := .int .i64 (dd : Int)) (fun W h => Op1.ld_int (.tmp 111) (by kernel_rfl) (by kernel_rfl) W (h.2.1)) hS ?_
  try simp only [Act.put, z1, z2, z3]
  refine tkP (i := 5) (oi := ⟨some 113, .fieldAddr 31 (.tmp 3) 5, 0, "base.go:529", #[], none⟩) (v := .pointer (some ⟨gx, 5, none⟩)) hS ?_
  try simp only [Act.put, z1, z2, z3]
  refine tkH (i := 6) (oi := ⟨some 114, .load 9 (.tmp 113), 9, "base.go:529", #[⟨5, .data⟩], none⟩) (v := .string tu) (fun W h => Op1.ld_str (.tmp 113) (by kernel_rfl) (by kernel_rfl) W (h.2.2)) hS ?_
  try simp only [Act.put, z1, z2, z3]
  refine wpAnyH_ready (rs := [7]) (by kernel_rfl) (by simp) ?_
  refine AllReadyH.cons (o := ⟨some 115, .call { callee := .value (.func 53), args := #[.tmp 110, .tmp 112, .tmp 114], argTypes := #[64, 3, 9] }, 3, "base.go:529", #[⟨2, .data⟩, ⟨4, .data⟩, ⟨6, .data⟩], none⟩) rfl (fun K hK => ?_) AllReadyH.nil
  rw [if_pos (by kernel_rfl)]
  go_simp
  refine (rSlotOf_in g m dd hdd tu htne _ ((unhide N4).has (unhide HM))).mono ?_
  rintro e w2 ⟨rfl, e9⟩
  rw [e9]
  clear e9 w2
  rw [unhide HFT]
  go_wp2_with fail
  refine hK.out _ _ (hS) (fun hS2 => ?_)
  clear hK K
  try simp only [Act.put, z1, z2, z3]
  refine tkP (i := 8) (oi := ⟨some 116, .binOp .geq 3 (.tmp 115) (.const (.int .i64 0)) 3, 4, "base.go:529", #[⟨7, .data⟩], none⟩) (v := .bool false) hS2 ?_
  try simp only [Act.put, z1, z2, z3]
  refine wpAnyH_done (by kernel_rfl) ?_ _
  clear hS hS2 q0 nz
  generalize V1.drew = V2 at *
  have CR := hide (Sft.rRoom_any g m k dd hdd tu htne V2 ((unhide N4).has (unhide HM)) ((unhide N4).hasD (unhide HM) (unhide HK)))
  rw [unhide HP] at CR
  have q2 := unhide QB _ _ (unhide N4) 2 _ rfl
  have q5 := unhide QB _ _ (unhide N4) 5 _ rfl
  go_wp2_with fail
  refine (unhide CR).mono ?_
  rintro e w3 ⟨rfl, b3⟩
  have N5 := hide ((unhide N4).call b3)
  clear b3
  go_wp2_with fail
  go_ret
  exact ⟨rfl, (unhide N5).after (unhide CM)⟩
set_option maxHeartbeats 4000000 in
set_option maxRecDepth 100000 in
theorem files0_renameThere (h : W.heap[g]? = some (.cells (cs ++ (ds ++ Sft.btl last t1 t2 t3 t4)) 55)) (hm : IsImg cs m) (hk : IsImg ds k) (p : Int) {dd : Nat} (hdd : dd < 3) (name tu text : ByteArray) (hn : name.size ≤ maxLen) (ht : tu.size ≤ maxLen) (hx : text.size ≤ maxLen) {d : Nat} (hd3 : d < 3) (hne : name.toList.isEmpty = false) (hck : chk ⟨4, (d : Int), (dd : Int), p, name, tu, text⟩ = 0) {j n : Nat} (hfd : m.find d name.toList = (j : Int)) (hj4 : j < 4) (hn8 : n < 8) (hino : m.ino d j = (n : Int)) (htne : tu.toList.isEmpty = false) {jt : Nat} (hft : m.find dd tu.toList = (jt : Int)) :
    Calls Tryz.prog 44 #[.pointer (some ⟨g, 0, none⟩), .agg (stpA ⟨4, (d : Int), (dd : Int), p, name, tu, text⟩)] W fun e w' => e = .returned (.int .i64 4) ∧ Bm W w' g (cs ++ (ds ++ Sft.btl last t1 t2 t3 t4)) := by
  have HI := hide hino
  have jn : decide ((j : Int) < 0) = false := by simp
  have nz : (n : Int) < 8 := by omega
  clear hino
  have HFT := hide hft
  clear hft
  have BEL := hide (show Below W.heap.size W (W.alloc (.cells (stpA ⟨4, (d : Int), (dd : Int), p, name, tu, text⟩) 31)) from (Below.refl _ W).alloc (Nat.le_refl _) _)
  have C1 := hide (Idl.stepFault_any ⟨4, (d : Int), (dd : Int), p, name, tu, text⟩ hn ht hx (W.alloc (.cells (stpA ⟨4, (d : Int), (dd : Int), p, name, tu, text⟩) 31)))
  rw [hck] at C1
  have HC := hide fun W' bW => stp_box W ⟨4, (d : Int), (dd : Int), p, name, tu, text⟩ W' bW
  have M0 := hide ((Bm.start h).call (unhide BEL))
  have GN := hide (show W.heap.size ≠ g from by have := (Array.getElem?_eq_some_iff.1 h).1; omega)
  have RX := hide (heap_alloc_last W (.cells (stpA ⟨4, (d : Int), (dd : Int), p, name, tu, text⟩) 31))
  have HM := hide hm
  have HK := hide hk
  have HFD := hide hfd
  clear h hck hfd hm hk
  simp only [stpA] at C1
  go_enter Tryz.func44, Tryz.ntmps44
  go_wp2_with fail
  refine (unhide C1).mono ?_
  rintro e w1 ⟨rfl, b1⟩
  have M1 := hide ((unhide M0).call b1)
  have HD := hide (b1.trans ((Below.refl w1.heap.size w1).drew.mono b1.size))
  have M2 := hide ((unhide M1).call (Below.refl w1.heap.size w1).drew)
  clear b1 C1 M0 M1
  generalize W.heap.size = gx at *
  go_wp2_with fail
  refine wp_region_held_drew (S := fun W' => HasAt W' g 0 m ∧ W'.cell? ⟨gx, 1, none⟩ = some (.int .i64 (d : Int)) ∧ W'.cell? ⟨gx, 4, none⟩ = some (.string name)) (by kernel_rfl) (⟨(unhide M2).has (unhide HM), unhide HC _ (unhide HD) 1 _ rfl, unhide HC _ (unhide HD) 4 _ rfl⟩) (fun hS => ?_)
  refine tkP (i := 0) (oi := ⟨some 16, .move (.tmp 0), 27, "base.go:507", #[], none⟩) (v := .pointer (some ⟨g, 0, none⟩)) hS ?_
  try simp only [Act.put, z1, z2, z3]
  refine tkP (i := 1) (oi := ⟨some 17, .nilCheck (.tmp 16), 0, "base.go:507", #[⟨0, .data⟩], none⟩) (v := .pointer (some ⟨g, 0, none⟩)) hS ?_
  try simp only [Act.put, z1, z2, z3]
  refine tkP (i := 2) (oi := ⟨some 18, .fieldAddr 55 (.tmp 17) 0, 0, "base.go:507", #[⟨1, .data⟩], none⟩) (v := .pointer (some ⟨g, 0, none⟩)) hS ?_
  try simp only [Act.put, z1, z2, z3]
  refine tkP (i := 3) (oi := ⟨some 19, .fieldAddr 31 (.tmp 3) 1, 0, "base.go:507", #[], none⟩) (v := .pointer (some ⟨gx, 1, none⟩)) hS ?_
  try simp only [Act.put, z1, z2, z3]
  refine tkH (i := 4) (oi := ⟨some 20, .load 3 (.tmp 19), 3, "base.go:507", #[⟨3, .data⟩], none⟩) (v := .int .i64 (d : Int)) (fun W h => Op1.ld_int (.tmp 19) (by kernel_rfl) (by kernel_rfl) W (h.2.1)) hS ?_
  try simp only [Act.put, z1, z2, z3]
  refine tkP (i := 5) (oi := ⟨some 21, .fieldAddr 31 (.tmp 3) 4, 0, "base.go:507", #[], none⟩) (v := .pointer (some ⟨gx, 4, none⟩)) hS ?_
  try simp only [Act.put, z1, z2, z3]
  refine tkH (i := 6) (oi := ⟨some 22, .load 9 (.tmp 21), 9, "base.go:507", #[⟨5, .data⟩], none⟩) (v := .string name) (fun W h => Op1.ld_str (.tmp 21) (by kernel_rfl) (by kernel_rfl) W (h.2.2)) hS ?_
  try simp only [Act.put, z1, z2, z3]
  refine wpAnyH_ready (rs := [7]) (by kernel_rfl) (by simp) ?_
  refine AllReadyH.cons (o := ⟨some 23, .call { callee := .value (.func 53), args := #[.tmp 18, .tmp 20, .tmp 22], argTypes := #[64, 3, 9] }, 3, "base.go:507", #[⟨2, .data⟩, ⟨4, .data⟩, ⟨6, .data⟩], none⟩) rfl (fun K hK => ?_) AllReadyH.nil
  rw [if_pos (by kernel_rfl)]
  go_simp
  refine (rSlotOf_in g m d hd3 name hne _ ((unhide M2).has (unhide HM))).mono ?_
  rintro e w2 ⟨rfl, e9⟩
  rw [e9]
  clear e9 w2
  rw [unhide HFD]
  go_wp2_with fail
  refine hK.out _ _ (hS) (fun hS2 => ?_)
  clear hK K
  try simp only [Act.put, z1, z2, z3]
  refine tkP (i := 8) (oi := ⟨some 6, .assign (.tmp 23), 3, "base.go:507", #[⟨7, .data⟩, ⟨7, .chain⟩, ⟨0, .phase⟩, ⟨1, .phase⟩, ⟨2, .phase⟩, ⟨3, .phase⟩, ⟨4, .phase⟩, ⟨5, .phase⟩, ⟨6, .phase⟩, ⟨7, .phase⟩], none⟩) (v := .int .i64 ((j : Int))) hS2 ?_
  try simp only [Act.put, z1, z2, z3]
  refine wpAnyH_done (by kernel_rfl) ?_ _
  clear hS hS2
  have RV : w1.drew.heap[gx]? = some (.cells (stpA ⟨4, (d : Int), (dd : Int), p, name, tu, text⟩) 31) := by
    rw [(unhide HD).block gx (Array.getElem?_eq_some_iff.1 (unhide RX)).1]; exact unhide RX
  have hgl : gx < w1.drew.heap.size := (Array.getElem?_eq_some_iff.1 RV).1
  have QB := hide (show ∀ (W' : World) (rows : Array Value), Bm w1.drew W' g rows → ∀ j u, (stpA ⟨4, (d : Int), (dd : Int), p, name, tu, text⟩)[j]? = some u → W'.cell? ⟨gx, j, none⟩ = some u from fun W' rows N j u hj => by rw [cell_of_row _ _ _ _ _ _ ((N.chg.block gx hgl (unhide GN)).trans RV)]; exact hj)
  have N2 := hide (Bm.start (unhide M2).row)
  have CM := hide (unhide M2).chg
  clear RV hgl HC HD M2 BEL RX HFD GN
  generalize w1.drew = V at *
  have q0 := unhide QB _ _ (unhide N2) 0 _ rfl
  have N3 := hide ((unhide N2).call (Below.refl _ _).drew)
  go_wp2_with fail
  refine wp_region_held_drew (S := fun W' => HasAt W' g 0 m ∧ W'.cell? ⟨gx, 1, none⟩ = some (.int .i64 (d : Int))) (by kernel_rfl) (⟨(unhide N3).has (unhide HM), unhide QB _ _ (unhide N3) 1 _ rfl⟩) (fun hS => ?_)
  refine tkP (i := 0) (oi := ⟨some 83, .move (.tmp 0), 27, "base.go:526", #[], none⟩) (v := .pointer (some ⟨g, 0, none⟩)) hS ?_
  try simp only [Act.put, z1, z2, z3]
  refine tkP (i := 1) (oi := ⟨some 84, .fieldAddr 31 (.tmp 3) 1, 0, "base.go:526", #[], none⟩) (v := .pointer (some ⟨gx, 1, none⟩)) hS ?_
  try simp only [Act.put, z1, z2, z3]
  refine tkH (i := 2) (oi := ⟨some 85, .load 3 (.tmp 84), 3, "base.go:526", #[⟨1, .data⟩], none⟩) (v := .int .i64 (d : Int)) (fun W h => Op1.ld_int (.tmp 84) (by kernel_rfl) (by kernel_rfl) W (h.2)) hS ?_
  try simp only [Act.put, z1, z2, z3]
  refine tkP (i := 3) (oi := ⟨some 86, .move (.tmp 6), 3, "base.go:526", #[], none⟩) (v := .int .i64 (j : Int)) hS ?_
  try simp only [Act.put, z1, z2, z3]
  refine tkP (i := 4) (oi := ⟨some 87, .nilCheck (.tmp 83), 0, "base.go:526", #[⟨0, .data⟩], none⟩) (v := .pointer (some ⟨g, 0, none⟩)) hS ?_
  try simp only [Act.put, z1, z2, z3]
  refine tkP (i := 5) (oi := ⟨some 88, .fieldAddr 55 (.tmp 87) 0, 0, "base.go:526", #[⟨4, .data⟩], none⟩) (v := .pointer (some ⟨g, 0, none⟩)) hS ?_
  try simp only [Act.put, z1, z2, z3]
  refine tkP (i := 6) (oi := ⟨some 89, .fieldAddr 44 (.tmp 88) 1, 0, "base.go:526", #[⟨5, .data⟩], none⟩) (v := .pointer (some ⟨g, 40, none⟩)) hS ?_
  try simp only [Act.put, z1, z2, z3]
  refine tkH (i := 7) (oi := ⟨some 90, .indexAddr 39 (.tmp 89) (.tmp 85), 0, "base.go:526", #[⟨6, .data⟩, ⟨2, .data⟩], none⟩) (v := .pointer (some ⟨g, 40 + d * 12, none⟩)) (fun W h => Op1.ix_dir (.tmp 89) (.tmp 85) (by kernel_rfl) (by kernel_rfl) (by kernel_rfl) (hd3) W) hS ?_
  try simp only [Act.put, z1, z2, z3]
  refine tkH (i := 8) (oi := ⟨some 91, .indexAddr 38 (.tmp 90) (.tmp 86), 0, "base.go:526", #[⟨7, .data⟩, ⟨3, .data⟩], none⟩) (v := .pointer (some ⟨g, 40 + d * 12 + j * 3, none⟩)) (fun W h => Op1.ix_slot (.tmp 90) (.tmp 86) (by kernel_rfl) (by kernel_rfl) (by kernel_rfl) (hj4) W) hS ?_
  try simp only [Act.put, z1, z2, z3]
  refine tkP (i := 9) (oi := ⟨some 92, .fieldAddr 37 (.tmp 91) 1, 0, "base.go:526", #[⟨8, .data⟩], none⟩) (v := .pointer (some ⟨g, 40 + d * 12 + j * 3 + 1, none⟩)) hS ?_
  try simp only [Act.put, z1, z2, z3]
  refine tkH (i := 10) (oi := ⟨some 93, .load 3 (.tmp 92), 3, "base.go:526", #[⟨9, .data⟩], none⟩) (v := .int .i64 (n : Int)) (fun W h => Op1.ld_int (.tmp 92) (by kernel_rfl) (by kernel_rfl) W (by have := h.1.ino d j hd3 hj4; rw [unhide HI, Nat.zero_add] at this; exact this)) hS ?_
  try simp only [Act.put, z1, z2, z3]
  refine tkP (i := 11) (oi := ⟨some 8, .assign (.tmp 93), 3, "base.go:526", #[⟨10, .data⟩, ⟨0, .phase⟩, ⟨1, .phase⟩, ⟨2, .phase⟩, ⟨3, .phase⟩, ⟨4, .phase⟩, ⟨5, .phase⟩, ⟨6, .phase⟩, ⟨7, .phase⟩, ⟨8, .phase⟩, ⟨9, .phase⟩, ⟨10, .phase⟩], none⟩) (v := .int .i64 (n : Int)) hS ?_
  try simp only [Act.put, z1, z2, z3]
  refine wpAnyH_done (by kernel_rfl) ?_ _
  clear hS q0 N2 jn
  generalize V.drew = V1 at *
  have q0 := unhide QB _ _ (unhide N3) 0 _ rfl
  have N4 := hide ((unhide N3).call (Below.refl _ _).drew)
  go_wp2_with fail
  refine wp_region_held_drew (S := fun W' => HasAt W' g 0 m ∧ W'.cell? ⟨gx, 2, none⟩ = some (.int .i64 (dd : Int)) ∧ W'.cell? ⟨gx, 5, none⟩ = some (.string tu)) (by kernel_rfl) (⟨(unhide N4).has (unhide HM), unhide QB _ _ (unhide N4) 2 _ rfl, unhide QB _ _ (unhide N4) 5 _ rfl⟩) (fun hS => ?_)
  refine tkP (i := 0) (oi := ⟨some 108, .move (.tmp 0), 27, "base.go:529", #[], none⟩) (v := .pointer (some ⟨g, 0, none⟩)) hS ?_
  try simp only [Act.put, z1, z2, z3]
  refine tkP (i := 1) (oi := ⟨some 109, .nilCheck (.tmp 108), 0, "base.go:529", #[⟨0, .data⟩], none⟩) (v := .pointer (some ⟨g, 0, none⟩)) hS ?_
  try simp only [Act.put, z1, z2, z3]
  refine tkP (i := 2) (oi := ⟨some 110, .fieldAddr 55 (.tmp 109) 0, 0, "base.go:529", #[⟨1, .data⟩], none⟩) (v := .pointer (some ⟨g, 0, none⟩)) hS ?_
  try simp only [Act.put, z1, z2, z3]
  refine tkP (i := 3) (oi := ⟨some 111, .fieldAddr 31 (.tmp 3) 2, 0, "base.go:529", #[], none⟩) (v := .pointer (some ⟨gx, 2, none⟩)) hS ?_
  try simp only [Act.put, z1, z2, z3]
  refine tkH (i := 4) (oi := ⟨some 112, .load 3 (.tmp 111), 3, "base.go:529", #[⟨3, .data⟩], none⟩) (v := .int .i64 (dd : Int)) (fun W h => Op1.ld_int (.tmp 111) (by kernel_rfl) (by kernel_rfl) W (h.2.1)) hS ?_
  try simp only [Act.put, z1, z2, z3]
  refine tkP (i := 5) (oi := ⟨some 113, .fieldAddr 31 (.tmp 3) 5, 0, "base.go:529", #[], none⟩) (v := .pointer (some ⟨gx, 5, none⟩)) hS ?_
  try simp only [Act.put, z1, z2, z3]
  refine tkH (i := 6) (oi := ⟨some 114, .load 9 (.tmp 113), 9, "base.go:529", #[⟨5, .data⟩], none⟩) (v := .string tu) (fun W h => Op1.ld_str (.tmp 113) (by kernel_rfl) (by kernel_rfl) W (h.2.2)) hS ?_
  try simp only [Act.put, z1, z2, z3]
  refine wpAnyH_ready (rs := [7]) (by kernel_rfl) (by simp) ?_
  refine AllReadyH.cons (o := ⟨some 115, .call { callee := .value (.func 53), args := #[.tmp 110, .tmp 112, .tmp 114], argTypes := #[64, 3, 9] }, 3, "base.go:529", #[⟨2, .data⟩, ⟨4, .data⟩, ⟨6, .data⟩], none⟩) rfl (fun K hK => ?_) AllReadyH.nil
  rw [if_pos (by kernel_rfl)]
  go_simp
  refine (rSlotOf_in g m dd hdd tu htne _ ((unhide N4).has (unhide HM))).mono ?_
  rintro e w2 ⟨rfl, e9⟩
  rw [e9]
  clear e9 w2
  rw [unhide HFT]
  go_wp2_with fail
  refine hK.out _ _ (hS) (fun hS2 => ?_)
  clear hK K
  try simp only [Act.put, z1, z2, z3]
  refine tkH (i := 8) (oi := ⟨some 116, .binOp .geq 3 (.tmp 115) (.const (.int .i64 0)) 3, 4, "base.go:529", #[⟨7, .data⟩], none⟩) (v := .bool true) (fun W h => Op1.geq0t (j := jt) (.tmp 115) (by kernel_rfl) (by kernel_rfl) (by kernel_rfl) W) hS2 ?_
  try simp only [Act.put, z1, z2, z3]
  refine wpAnyH_done (by kernel_rfl) ?_ _
  clear hS hS2 q0 nz
  generalize V1.drew = V2 at *
  go_wp2_with fail
  go_ret
  exact ⟨rfl, (unhide N4).after (unhide CM)⟩
set_option maxHeartbeats 4000000 in
set_option maxRecDepth 100000 in
theorem files0_renameRoom (h : W.heap[g]? = some (.cells (cs ++ (ds ++ Sft.btl last t1 t2 t3 t4)) 55)) (hm : IsImg cs m) (hk : IsImg ds k) (p : Int) {dd : Nat} (hdd : dd < 3) (name tu text : ByteArray) (hn : name.size ≤ maxLen) (ht : tu.size ≤ maxLen) (hx : text.size ≤ maxLen) {d : Nat} (hd3 : d < 3) (hne : name.toList.isEmpty = false) (hck : chk ⟨4, (d : Int), (dd : Int), p, name, tu, text⟩ = 0) {j n : Nat} (hfd : m.find d name.toList = (j : Int)) (hj4 : j < 4) (hn8 : n < 8) (hino : m.ino d j = (n : Int)) (htne : tu.toList.isEmpty = false) (hft : m.find dd tu.toList = -1) (hp : Img.noPlace m k (dd : Int) tu = true) :
    Calls Tryz.prog 44 #[.pointer (some ⟨g, 0, none⟩), .agg (stpA ⟨4, (d : Int), (dd : Int), p, name, tu, text⟩)] W fun e w' => e = .returned (.int .i64 6) ∧ Bm W w' g (cs ++ (ds ++ Sft.btl last t1 t2 t3 t4)) := by
  have HI := hide hino
  have jn : decide ((j : Int) < 0) = false := by simp
  have nz : (n : Int) < 8 := by omega
  clear hino
  have HFT := hide hft
  have HP := hide hp
  clear hft hp
  have BEL := hide (show Below W.heap.size W (W.alloc (.cells (stpA ⟨4, (d : Int), (dd : Int), p, name, tu, text⟩) 31)) from (Below.refl _ W).alloc (Nat.le_refl _) _)
  have C1 := hide (Idl.stepFault_any ⟨4, (d : Int), (dd : Int), p, name, tu, text⟩ hn ht hx (W.alloc (.cells (stpA ⟨4, (d : Int), (dd : Int), p, name, tu, text⟩) 31)))
  rw [hck] at C1
  have HC := hide fun W' bW => stp_box W ⟨4, (d : Int), (dd : Int), p, name, tu, text⟩ W' bW
  have M0 := hide ((Bm.start h).call (unhide BEL))
  have GN := hide (show W.heap.size ≠ g from by have := (Array.getElem?_eq_some_iff.1 h).1; omega)
  have RX := hide (heap_alloc_last W (.cells (stpA ⟨4, (d : Int), (dd : Int), p, name, tu, text⟩) 31))
  have HM := hide hm
  have HK := hide hk
  have HFD := hide hfd
  clear h hck hfd hm hk
  simp only [stpA] at C1
  go_enter Tryz.func44, Tryz.ntmps44
  go_wp2_with fail
  refine (unhide C1).mono ?_
  rintro e w1 ⟨rfl, b1⟩
  have M1 := hide ((unhide M0).call b1)
  have HD := hide (b1.trans ((Below.refl w1.heap.size w1).drew.mono b1.size))
  have M2 := hide ((unhide M1).call (Below.refl w1.heap.size w1).drew)
  clear b1 C1 M0 M1
  generalize W.heap.size = gx at *
  go_wp2_with fail
  refine wp_region_held_drew (S := fun W' => HasAt W' g 0 m ∧ W'.cell? ⟨gx, 1, none⟩ = some (.int .i64 (d : Int)) ∧ W'.cell? ⟨gx, 4, none⟩ = some (.string name)) (by kernel_rfl) (⟨(unhide M2).has (unhide HM), unhide HC _ (unhide HD) 1 _ rfl, unhide HC _ (unhide HD) 4 _ rfl⟩) (fun hS => ?_)
  refine tkP (i := 0) (oi := ⟨some 16, .move (.tmp 0), 27, "base.go:507", #[], none⟩) (v := .pointer (some ⟨g, 0, none⟩)) hS ?_
  try simp only [Act.put, z1, z2, z3]
  refine tkP (i := 1) (oi := ⟨some 17, .nilCheck (.tmp 16), 0, "base.go:507", #[⟨0, .data⟩], none⟩) (v := .pointer (some ⟨g, 0, none⟩)) hS ?_
  try simp only [Act.put, z1, z2, z3]
  refine tkP (i := 2) (oi := ⟨some 18, .fieldAddr 55 (.tmp 17) 0, 0, "base.go:507", #[⟨1, .data⟩], none⟩) (v := .pointer (some ⟨g, 0, none⟩)) hS ?_
  try simp only [Act.put, z1, z2, z3]
  refine tkP (i := 3) (oi := ⟨some 19, .fieldAddr 31 (.tmp 3) 1, 0, "base.go:507", #[], none⟩) (v := .pointer (some ⟨gx, 1, none⟩)) hS ?_
  try simp only [Act.put, z1, z2, z3]
  refine tkH (i := 4) (oi := ⟨some 20, .load 3 (.tmp 19), 3, "base.go:507", #[⟨3, .data⟩], none⟩) (v := .int .i64 (d : Int)) (fun W h => Op1.ld_int (.tmp 19) (by kernel_rfl) (by kernel_rfl) W (h.2.1)) hS ?_
  try simp only [Act.put, z1, z2, z3]
  refine tkP (i := 5) (oi := ⟨some 21, .fieldAddr 31 (.tmp 3) 4, 0, "base.go:507", #[], none⟩) (v := .pointer (some ⟨gx, 4, none⟩)) hS ?_
  try simp only [Act.put, z1, z2, z3]
  refine tkH (i := 6) (oi := ⟨some 22, .load 9 (.tmp 21), 9, "base.go:507", #[⟨5, .data⟩], none⟩) (v := .string name) (fun W h => Op1.ld_str (.tmp 21) (by kernel_rfl) (by kernel_rfl) W (h.2.2)) hS ?_
  try simp only [Act.put, z1, z2, z3]
  refine wpAnyH_ready (rs := [7]) (by kernel_rfl) (by simp) ?_
  refine AllReadyH.cons (o := ⟨some 23, .call { callee := .value (.func 53), args := #[.tmp 18, .tmp 20, .tmp 22], argTypes := #[64, 3, 9] }, 3, "base.go:507", #[⟨2, .data⟩, ⟨4, .data⟩, ⟨6, .data⟩], none⟩) rfl (fun K hK => ?_) AllReadyH.nil
  rw [if_pos (by kernel_rfl)]
  go_simp
  refine (rSlotOf_in g m d hd3 name hne _ ((unhide M2).has (unhide HM))).mono ?_
  rintro e w2 ⟨rfl, e9⟩
  rw [e9]
  clear e9 w2
  rw [unhide HFD]
  go_wp2_with fail
  refine hK.out _ _ (hS) (fun hS2 => ?_)
  clear hK K
  try simp only [Act.put, z1, z2, z3]
  refine tkP (i := 8) (oi := ⟨some 6, .assign (.tmp 23), 3, "base.go:507", #[⟨7, .data⟩, ⟨7, .chain⟩, ⟨0, .phase⟩, ⟨1, .phase⟩, ⟨2, .phase⟩, ⟨3, .phase⟩, ⟨4, .phase⟩, ⟨5, .phase⟩, ⟨6, .phase⟩, ⟨7, .phase⟩], none⟩) (v := .int .i64 ((j : Int))) hS2 ?_
  try simp only [Act.put, z1, z2, z3]
  refine wpAnyH_done (by kernel_rfl) ?_ _
  clear hS hS2
  have RV : w1.drew.heap[gx]? = some (.cells (stpA ⟨4, (d : Int), (dd : Int), p, name, tu, text⟩) 31) := by
    rw [(unhide HD).block gx (Array.getElem?_eq_some_iff.1 (unhide RX)).1]; exact unhide RX
  have hgl : gx < w1.drew.heap.size := (Array.getElem?_eq_some_iff.1 RV).1
  have QB := hide (show ∀ (W' : World) (rows : Array Value), Bm w1.drew W' g rows → ∀ j u, (stpA ⟨4, (d : Int), (dd : Int), p, name, tu, text⟩)[j]? = some u → W'.cell? ⟨gx, j, none⟩ = some u from fun W' rows N j u hj => by rw [cell_of_row _ _ _ _ _ _ ((N.chg.block gx hgl (unhide GN)).trans RV)]; exact hj)
  have N2 := hide (Bm.start (unhide M2).row)
  have CM := hide (unhide M2).chg
  clear RV hgl HC HD M2 BEL RX HFD GN
  generalize w1.drew = V at *
  have q0 := unhide QB _ _ (unhide N2) 0 _ rfl
  have N3 := hide ((unhide N2).call (Below.refl _ _).drew)
  go_wp2_with fail
  refine wp_region_held_drew (S := fun W' => HasAt W' g 0 m ∧ W'.cell? ⟨gx, 1, none⟩ = some (.int .i64 (d : Int))) (by kernel_rfl) (⟨(unhide N3).has (unhide HM), unhide QB _ _ (unhide N3) 1 _ rfl⟩) (fun hS => ?_)
  refine tkP (i := 0) (oi := ⟨some 83, .move (.tmp 0), 27, "base.go:526", #[], none⟩) (v := .pointer (some ⟨g, 0, none⟩)) hS ?_
  try simp only [Act.put, z1, z2, z3]
  refine tkP (i := 1) (oi := ⟨some 84, .fieldAddr 31 (.tmp 3) 1, 0, "base.go:526", #[], none⟩) (v := .pointer (some ⟨gx, 1, none⟩)) hS ?_
  try simp only [Act.put, z1, z2, z3]
  refine tkH (i := 2) (oi := ⟨some 85, .load 3 (.tmp 84), 3, "base.go:526", #[⟨1, .data⟩], none⟩) (v := .int .i64 (d : Int)) (fun W h => Op1.ld_int (.tmp 84) (by kernel_rfl) (by kernel_rfl) W (h.2)) hS ?_
  try simp only [Act.put, z1, z2, z3]
  refine tkP (i := 3) (oi := ⟨some 86, .move (.tmp 6), 3, "base.go:526", #[], none⟩) (v := .int .i64 (j : Int)) hS ?_
  try simp only [Act.put, z1, z2, z3]
  refine tkP (i := 4) (oi := ⟨some 87, .nilCheck (.tmp 83), 0, "base.go:526", #[⟨0, .data⟩], none⟩) (v := .pointer (some ⟨g, 0, none⟩)) hS ?_
  try simp only [Act.put, z1, z2, z3]
  refine tkP (i := 5) (oi := ⟨some 88, .fieldAddr 55 (.tmp 87) 0, 0, "base.go:526", #[⟨4, .data⟩], none⟩) (v := .pointer (some ⟨g, 0, none⟩)) hS ?_
  try simp only [Act.put, z1, z2, z3]
  refine tkP (i := 6) (oi := ⟨some 89, .fieldAddr 44 (.tmp 88) 1, 0, "base.go:526", #[⟨5, .data⟩], none⟩) (v := .pointer (some ⟨g, 40, none⟩)) hS ?_
  try simp only [Act.put, z1, z2, z3]
  refine tkH (i := 7) (oi := ⟨some 90, .indexAddr 39 (.tmp 89) (.tmp 85), 0, "base.go:526", #[⟨6, .data⟩, ⟨2, .data⟩], none⟩) (v := .pointer (some ⟨g, 40 + d * 12, none⟩)) (fun W h => Op1.ix_dir (.tmp 89) (.tmp 85) (by kernel_rfl) (by kernel_rfl) (by kernel_rfl) (hd3) W) hS ?_
  try simp only [Act.put, z1, z2, z3]
  refine tkH (i := 8) (oi := ⟨some 91, .indexAddr 38 (.tmp 90) (.tmp 86), 0, "base.go:526", #[⟨7, .data⟩, ⟨3, .data⟩], none⟩) (v := .pointer (some ⟨g, 40 + d * 12 + j * 3, none⟩)) (fun W h => Op1.ix_slot (.tmp 90) (.tmp 86) (by kernel_rfl) (by kernel_rfl) (by kernel_rfl) (hj4) W) hS ?_
  try simp only [Act.put, z1, z2, z3]
  refine tkP (i := 9) (oi := ⟨some 92, .fieldAddr 37 (.tmp 91) 1, 0, "base.go:526", #[⟨8, .data⟩], none⟩) (v := .pointer (some ⟨g, 40 + d * 12 + j * 3 + 1, none⟩)) hS ?_
  try simp only [Act.put, z1, z2, z3]
  refine tkH (i := 10) (oi := ⟨some 93, .load 3 (.tmp 92), 3, "base.go:526", #[⟨9, .data⟩], none⟩) (v := .int .i64 (n : Int)) (fun W h => Op1.ld_int (.tmp 92) (by kernel_rfl) (by kernel_rfl) W (by have := h.1.ino d j hd3 hj4; rw [unhide HI, Nat.zero_add] at this; exact this)) hS ?_
  try simp only [Act.put, z1, z2, z3]
  refine tkP (i := 11) (oi := ⟨some 8, .assign (.tmp 93), 3, "base.go:526", #[⟨10, .data⟩, ⟨0, .phase⟩, ⟨1, .phase⟩, ⟨2, .phase⟩, ⟨3, .phase⟩, ⟨4, .phase⟩, ⟨5, .phase⟩, ⟨6, .phase⟩, ⟨7, .phase⟩, ⟨8, .phase⟩, ⟨9, .phase⟩, ⟨10, .phase⟩], none⟩) (v := .int .i64 (n : Int)) hS ?_
  try simp only [Act.put, z1, z2, z3]
  refine wpAnyH_done (by kernel_rfl) ?_ _
  clear hS q0 N2 jn
  generalize V.drew = V1 at *
  have q0 := unhide QB _ _ (unhide N3) 0 _ rfl
  have N4 := hide ((unhide N3).call (Below.refl _ _).drew)
  go_wp2_with fail
  refine wp_region_held_drew (S := fun W' => HasAt W' g 0 m ∧ W'.cell? ⟨gx, 2, none⟩ = some (.int .i64 (dd : Int)) ∧ W'.cell? ⟨gx, 5, none⟩ = some (.string tu)) (by kernel_rfl) (⟨(unhide N4).has (unhide HM), unhide QB _ _ (unhide N4) 2 _ rfl, unhide QB _ _ (unhide N4) 5 _ rfl⟩) (fun hS => ?_)
  refine tkP (i := 0) (oi := ⟨some 108, .move (.tmp 0), 27, "base.go:529", #[], none⟩) (v := .pointer (some ⟨g, 0, none⟩)) hS ?_
  try simp only [Act.put, z1, z2, z3]
  refine tkP (i := 1) (oi := ⟨some 109, .nilCheck (.tmp 108), 0, "base.go:529", #[⟨0, .data⟩], none⟩) (v := .pointer (some ⟨g, 0, none⟩)) hS ?_
  try simp only [Act.put, z1, z2, z3]
  refine tkP (i := 2) (oi := ⟨some 110, .fieldAddr 55 (.tmp 109) 0, 0, "base.go:529", #[⟨1, .data⟩], none⟩) (v := .pointer (some ⟨g, 0, none⟩)) hS ?_
  try simp only [Act.put, z1, z2, z3]
  refine tkP (i := 3) (oi := ⟨some 111, .fieldAddr 31 (.tmp 3) 2, 0, "base.go:529", #[], none⟩) (v := .pointer (some ⟨gx, 2, none⟩)) hS ?_
  try simp only [Act.put, z1, z2, z3]
  refine tkH (i := 4) (oi := ⟨some 112, .load 3 (.tmp 111), 3, "base.go:529", #[⟨3, .data⟩], none⟩) (v := .int .i64 (dd : Int)) (fun W h => Op1.ld_int (.tmp 111) (by kernel_rfl) (by kernel_rfl) W (h.2.1)) hS ?_
  try simp only [Act.put, z1, z2, z3]
  refine tkP (i := 5) (oi := ⟨some 113, .fieldAddr 31 (.tmp 3) 5, 0, "base.go:529", #[], none⟩) (v := .pointer (some ⟨gx, 5, none⟩)) hS ?_
  try simp only [Act.put, z1, z2, z3]
  refine tkH (i := 6) (oi := ⟨some 114, .load 9 (.tmp 113), 9, "base.go:529", #[⟨5, .data⟩], none⟩) (v := .string tu) (fun W h => Op1.ld_str (.tmp 113) (by kernel_rfl) (by kernel_rfl) W (h.2.2)) hS ?_
  try simp only [Act.put, z1, z2, z3]
  refine wpAnyH_ready (rs := [7]) (by kernel_rfl) (by simp) ?_
  refine AllReadyH.cons (o := ⟨some 115, .call { callee := .value (.func 53), args := #[.tmp 110, .tmp 112, .tmp 114], argTypes := #[64, 3, 9] }, 3, "base.go:529", #[⟨2, .data⟩, ⟨4, .data⟩, ⟨6, .data⟩], none⟩) rfl (fun K hK => ?_) AllReadyH.nil
  rw [if_pos (by kernel_rfl)]
  go_simp
  refine (rSlotOf_in g m dd hdd tu htne _ ((unhide N4).has (unhide HM))).mono ?_
  rintro e w2 ⟨rfl, e9⟩
  rw [e9]
  clear e9 w2
  rw [unhide HFT]
  go_wp2_with fail
  refine hK.out _ _ (hS) (fun hS2 => ?_)
  clear hK K
  try simp only [Act.put, z1, z2, z3]
  refine tkP (i := 8) (oi := ⟨some 116, .binOp .geq 3 (.tmp 115) (.const (.int .i64 0)) 3, 4, "base.go:529", #[⟨7, .data⟩], none⟩) (v := .bool false) hS2 ?_
  try simp only [Act.put, z1, z2, z3]
  refine wpAnyH_done (by kernel_rfl) ?_ _
  clear hS hS2 q0 nz
  generalize V1.drew = V2 at *
  have CR := hide (Sft.rRoom_any g m k dd hdd tu htne V2 ((unhide N4).has (unhide HM)) ((unhide N4).hasD (unhide HM) (unhide HK)))
  rw [unhide HP] at CR
  have q2 := unhide QB _ _ (unhide N4) 2 _ rfl
  have q5 := unhide QB _ _ (unhide N4) 5 _ rfl
  go_wp2_with fail
  refine (unhide CR).mono ?_
  rintro e w3 ⟨rfl, b3⟩
  have N5 := hide ((unhide N4).call b3)
  clear b3
  go_wp2_with fail
  go_ret
  exact ⟨rfl, (unhide N5).after (unhide CM)⟩
set_option maxHeartbeats 4000000 in
set_option maxRecDepth 100000 in
theorem files0_putFull (h : W.heap[g]? = some (.cells (cs ++ (ds ++ Sft.btl last t1 t2 t3 t4)) 55)) (hm : IsImg cs m) (hk : IsImg ds k) (toDir : Int) {q : Nat} (hq : q < 2) (name tu text : ByteArray) (hn : name.size ≤ maxLen) (ht : tu.size ≤ maxLen) (hx : text.size ≤ maxLen) {d : Nat} (hd3 : d < 3) (hne : name.toList.isEmpty = false) (hck : chk ⟨5, (d : Int), toDir, (q : Int), name, tu, text⟩ = 0) {j n : Nat} (hfd : m.find d name.toList = (j : Int)) (hj4 : j < 4) (hn8 : n < 8) (hino : m.ino d j = (n : Int)) (hp : m.part n q < 0) (hf : Img.freeData m k < 0) :
    Calls Tryz.prog 44 #[.pointer (some ⟨g, 0, none⟩), .agg (stpA ⟨5, (d : Int), toDir, (q : Int), name, tu, text⟩)] W fun e w' => e = .returned (.int .i64 6) ∧ Bm W w' g (cs ++ (ds ++ Sft.btl last t1 t2 t3 t4)) := by
  have HI := hide hino
  have jn : decide ((j : Int) < 0) = false := by simp
  have nz : (n : Int) < 8 := by omega
  clear hino
  have HP := hide hp
  have HF := hide hf
  clear hp hf
  have BEL := hide (show Below W.heap.size W (W.alloc (.cells (stpA ⟨5, (d : Int), toDir, (q : Int), name, tu, text⟩) 31)) from (Below.refl _ W).alloc (Nat.le_refl _) _)
  have C1 := hide (Idl.stepFault_any ⟨5, (d : Int), toDir, (q : Int), name, tu, text⟩ hn ht hx (W.alloc (.cells (stpA ⟨5, (d : Int), toDir, (q : Int), name, tu, text⟩) 31)))
  rw [hck] at C1
  have HC := hide fun W' bW => stp_box W ⟨5, (d : Int), toDir, (q : Int), name, tu, text⟩ W' bW
  have M0 := hide ((Bm.start h).call (unhide BEL))
  have GN := hide (show W.heap.size ≠ g from by have := (Array.getElem?_eq_some_iff.1 h).1; omega)
  have RX := hide (heap_alloc_last W (.cells (stpA ⟨5, (d : Int), toDir, (q : Int), name, tu, text⟩) 31))
  have HM := hide hm
  have HK := hide hk
  have HFD := hide hfd
  clear h hck hfd hm hk
  simp only [stpA] at C1
  go_enter Tryz.func44, Tryz.ntmps44
  go_wp2_with fail
  refine (unhide C1).mono ?_
  rintro e w1 ⟨rfl, b1⟩
  have M1 := hide ((unhide M0).call b1)
  have HD := hide (b1.trans ((Below.refl w1.heap.size w1).drew.mono b1.size))
  have M2 := hide ((unhide M1).call (Below.refl w1.heap.size w1).drew)
  clear b1 C1 M0 M1
  generalize W.heap.size = gx at *
  go_wp2_with fail
  refine wp_region_held_drew (S := fun W' => HasAt W' g 0 m ∧ W'.cell? ⟨gx, 1, none⟩ = some (.int .i64 (d : Int)) ∧ W'.cell? ⟨gx, 4, none⟩ = some (.string name)) (by kernel_rfl) (⟨(unhide M2).has (unhide HM), unhide HC _ (unhide HD) 1 _ rfl, unhide HC _ (unhide HD) 4 _ rfl⟩) (fun hS => ?_)
  refine tkP (i := 0) (oi := ⟨some 16, .move (.tmp 0), 27, "base.go:507", #[], none⟩) (v := .pointer (some ⟨g, 0, none⟩)) hS ?_
  try simp only [Act.put, z1, z2, z3]
  refine tkP (i := 1) (oi := ⟨some 17, .nilCheck (.tmp 16), 0, "base.go:507", #[⟨0, .data⟩], none⟩) (v := .pointer (some ⟨g, 0, none⟩)) hS ?_
  try simp only [Act.put, z1, z2, z3]
  refine tkP (i := 2) (oi := ⟨some 18, .fieldAddr 55 (.tmp 17) 0, 0, "base.go:507", #[⟨1, .data⟩], none⟩) (v := .pointer (some ⟨g, 0, none⟩)) hS ?_
  try simp only [Act.put, z1, z2, z3]
  refine tkP (i := 3) (oi := ⟨some 19, .fieldAddr 31 (.tmp 3) 1, 0, "base.go:507", #[], none⟩) (v := .pointer (some ⟨gx, 1, none⟩)) hS ?_
  try simp only [Act.put, z1, z2, z3]
  refine tkH (i := 4) (oi := ⟨some 20, .load 3 (.tmp 19), 3, "base.go:507", #[⟨3, .data⟩], none⟩) (v := .int .i64 (d : Int)) (fun W h => Op1.ld_int (.tmp 19) (by kernel_rfl) (by kernel_rfl) W (h.2.1)) hS ?_
  try simp only [Act.put, z1, z2, z3]
  refine tkP (i := 5) (oi := ⟨some 21, .fieldAddr 31 (.tmp 3) 4, 0, "base.go:507", #[], none⟩) (v := .pointer (some ⟨gx, 4, none⟩)) hS ?_
  try simp only [Act.put, z1, z2, z3]
  refine tkH (i := 6) (oi := ⟨some 22, .load 9 (.tmp 21), 9, "base.go:507", #[⟨5, .data⟩], none⟩) (v := .string name) (fun W h => Op1.ld_str (.tmp 21) (by kernel_rfl) (by kernel_rfl) W (h.2.2)) hS ?_
  try simp only [Act.put, z1, z2, z3]
  refine wpAnyH_ready (rs := [7]) (by kernel_rfl) (by simp) ?_
  refine AllReadyH.cons (o := ⟨some 23, .call { callee := .value (.func 53), args := #[.tmp 18, .tmp 20, .tmp 22], argTypes := #[64, 3, 9] }, 3, "base.go:507", #[⟨2, .data⟩, ⟨4, .data⟩, ⟨6, .data⟩], none⟩) rfl (fun K hK => ?_) AllReadyH.nil
  rw [if_pos (by kernel_rfl)]
  go_simp
  refine (rSlotOf_in g m d hd3 name hne _ ((unhide M2).has (unhide HM))).mono ?_
  rintro e w2 ⟨rfl, e9⟩
  rw [e9]
  clear e9 w2
  rw [unhide HFD]
  go_wp2_with fail
  refine hK.out _ _ (hS) (fun hS2 => ?_)
  clear hK K
  try simp only [Act.put, z1, z2, z3]
  refine tkP (i := 8) (oi := ⟨some 6, .assign (.tmp 23), 3, "base.go:507", #[⟨7, .data⟩, ⟨7, .chain⟩, ⟨0, .phase⟩, ⟨1, .phase⟩, ⟨2, .phase⟩, ⟨3, .phase⟩, ⟨4, .phase⟩, ⟨5, .phase⟩, ⟨6, .phase⟩, ⟨7, .phase⟩], none⟩) (v := .int .i64 ((j : Int))) hS2 ?_
  try simp only [Act.put, z1, z2, z3]
  refine wpAnyH_done (by kernel_rfl) ?_ _
  clear hS hS2
  have RV : w1.drew.heap[gx]? = some (.cells (stpA ⟨5, (d : Int), toDir, (q : Int), name, tu, text⟩) 31) := by
    rw [(unhide HD).block gx (Array.getElem?_eq_some_iff.1 (unhide RX)).1]; exact unhide RX
  have hgl : gx < w1.drew.heap.size := (Array.getElem?_eq_some_iff.1 RV).1
  have QB := hide (show ∀ (W' : World) (rows : Array Value), Bm w1.drew W' g rows → ∀ j u, (stpA ⟨5, (d : Int), toDir, (q : Int), name, tu, text⟩)[j]? = some u → W'.cell? ⟨gx, j, none⟩ = some u from fun W' rows N j u hj => by rw [cell_of_row _ _ _ _ _ _ ((N.chg.block gx hgl (unhide GN)).trans RV)]; exact hj)
  have N2 := hide (Bm.start (unhide M2).row)
  have CM := hide (unhide M2).chg
  clear RV hgl HC HD M2 BEL RX HFD GN
  generalize w1.drew = V at *
  have q0 := unhide QB _ _ (unhide N2) 0 _ rfl
  have N3 := hide ((unhide N2).call (Below.refl _ _).drew)
  go_wp2_with fail
  refine wp_region_held_drew (S := fun W' => HasAt W' g 0 m ∧ W'.cell? ⟨gx, 1, none⟩ = some (.int .i64 (d : Int))) (by kernel_rfl) (⟨(unhide N3).has (unhide HM), unhide QB _ _ (unhide N3) 1 _ rfl⟩) (fun hS => ?_)
  refine tkP (i := 0) (oi := ⟨some 83, .move (.tmp 0), 27, "base.go:526", #[], none⟩) (v := .pointer (some ⟨g, 0, none⟩)) hS ?_
  try simp only [Act.put, z1, z2, z3]
  refine tkP (i := 1) (oi := ⟨some 84, .fieldAddr 31 (.tmp 3) 1, 0, "base.go:526", #[], none⟩) (v := .pointer (some ⟨gx, 1, none⟩)) hS ?_
  try simp only [Act.put, z1, z2, z3]
  refine tkH (i := 2) (oi := ⟨some 85, .load 3 (.tmp 84), 3, "base.go:526", #[⟨1, .data⟩], none⟩) (v := .int .i64 (d : Int)) (fun W h => Op1.ld_int (.tmp 84) (by kernel_rfl) (by kernel_rfl) W (h.2)) hS ?_
  try simp only [Act.put, z1, z2, z3]
  refine tkP (i := 3) (oi := ⟨some 86, .move (.tmp 6), 3, "base.go:526", #[], none⟩) (v := .int .i64 (j : Int)) hS ?_
  try simp only [Act.put, z1, z2, z3]
  refine tkP (i := 4) (oi := ⟨some 87, .nilCheck (.tmp 83), 0, "base.go:526", #[⟨0, .data⟩], none⟩) (v := .pointer (some ⟨g, 0, none⟩)) hS ?_
  try simp only [Act.put, z1, z2, z3]
  refine tkP (i := 5) (oi := ⟨some 88, .fieldAddr 55 (.tmp 87) 0, 0, "base.go:526", #[⟨4, .data⟩], none⟩) (v := .pointer (some ⟨g, 0, none⟩)) hS ?_
  try simp only [Act.put, z1, z2, z3]
  refine tkP (i := 6) (oi := ⟨some 89, .fieldAddr 44 (.tmp 88) 1, 0, "base.go:526", #[⟨5, .data⟩], none⟩) (v := .pointer (some ⟨g, 40, none⟩)) hS ?_
  try simp only [Act.put, z1, z2, z3]
  refine tkH (i := 7) (oi := ⟨some 90, .indexAddr 39 (.tmp 89) (.tmp 85), 0, "base.go:526", #[⟨6, .data⟩, ⟨2, .data⟩], none⟩) (v := .pointer (some ⟨g, 40 + d * 12, none⟩)) (fun W h => Op1.ix_dir (.tmp 89) (.tmp 85) (by kernel_rfl) (by kernel_rfl) (by kernel_rfl) (hd3) W) hS ?_
  try simp only [Act.put, z1, z2, z3]
  refine tkH (i := 8) (oi := ⟨some 91, .indexAddr 38 (.tmp 90) (.tmp 86), 0, "base.go:526", #[⟨7, .data⟩, ⟨3, .data⟩], none⟩) (v := .pointer (some ⟨g, 40 + d * 12 + j * 3, none⟩)) (fun W h => Op1.ix_slot (.tmp 90) (.tmp 86) (by kernel_rfl) (by kernel_rfl) (by kernel_rfl) (hj4) W) hS ?_
  try simp only [Act.put, z1, z2, z3]
  refine tkP (i := 9) (oi := ⟨some 92, .fieldAddr 37 (.tmp 91) 1, 0, "base.go:526", #[⟨8, .data⟩], none⟩) (v := .pointer (some ⟨g, 40 + d * 12 + j * 3 + 1, none⟩)) hS ?_
  try simp only [Act.put, z1, z2, z3]
  refine tkH (i := 10) (oi := ⟨some 93, .load 3 (.tmp 92), 3, "base.go:526", #[⟨9, .data⟩], none⟩) (v := .int .i64 (n : Int)) (fun W h => Op1.ld_int (.tmp 92) (by kernel_rfl) (by kernel_rfl) W (by have := h.1.ino d j hd3 hj4; rw [unhide HI, Nat.zero_add] at this; exact this)) hS ?_
  try simp only [Act.put, z1, z2, z3]
  refine tkP (i := 11) (oi := ⟨some 8, .assign (.tmp 93), 3, "base.go:526", #[⟨10, .data⟩, ⟨0, .phase⟩, ⟨1, .phase⟩, ⟨2, .phase⟩, ⟨3, .phase⟩, ⟨4, .phase⟩, ⟨5, .phase⟩, ⟨6, .phase⟩, ⟨7, .phase⟩, ⟨8, .phase⟩, ⟨9, .phase⟩, ⟨10, .phase⟩], none⟩) (v := .int .i64 (n : Int)) hS ?_
  try simp only [Act.put, z1, z2, z3]
  refine wpAnyH_done (by kernel_rfl) ?_ _
  clear hS q0 N2 jn
  generalize V.drew = V1 at *
  have q0 := unhide QB _ _ (unhide N3) 0 _ rfl
  have N4 := hide ((unhide N3).call (Below.refl _ _).drew)
  go_wp2_with fail
  refine wp_region_held_drew (S := fun W' => HasAt W' g 0 m ∧ W'.cell? ⟨gx, 3, none⟩ = some (.int .i64 (q : Int))) (by kernel_rfl) (⟨(unhide N4).has (unhide HM), unhide QB _ _ (unhide N4) 3 _ rfl⟩) (fun hS => ?_)
  refine tkP (i := 0) (oi := ⟨some 163, .move (.tmp 9), 100, "base.go:545", #[], none⟩) (v := .pointer (some ⟨g, n * 5, none⟩)) hS ?_
  try simp only [Act.put, z1, z2, z3]
  refine tkP (i := 1) (oi := ⟨some 164, .fieldAddr 31 (.tmp 3) 3, 0, "base.go:545", #[], none⟩) (v := .pointer (some ⟨gx, 3, none⟩)) hS ?_
  try simp only [Act.put, z1, z2, z3]
  refine tkH (i := 2) (oi := ⟨some 165, .load 3 (.tmp 164), 3, "base.go:545", #[⟨1, .data⟩], none⟩) (v := .int .i64 (q : Int)) (fun W h => Op1.ld_int (.tmp 164) (by kernel_rfl) (by kernel_rfl) W (h.2)) hS ?_
  try simp only [Act.put, z1, z2, z3]
  refine tkP (i := 3) (oi := ⟨some 166, .nilCheck (.tmp 163), 0, "base.go:545", #[⟨0, .data⟩], none⟩) (v := .pointer (some ⟨g, n * 5, none⟩)) hS ?_
  try simp only [Act.put, z1, z2, z3]
  refine tkP (i := 4) (oi := ⟨some 167, .fieldAddr 34 (.tmp 166) 3, 0, "base.go:545", #[⟨3, .data⟩], none⟩) (v := .pointer (some ⟨g, n * 5 + 3, none⟩)) hS ?_
  try simp only [Act.put, z1, z2, z3]
  refine tkH (i := 5) (oi := ⟨some 168, .indexAddr 32 (.tmp 167) (.tmp 165), 0, "base.go:545", #[⟨4, .data⟩, ⟨2, .data⟩], none⟩) (v := .pointer (some ⟨g, n * 5 + 3 + q, none⟩)) (fun W h => Op1.ix_part (.tmp 167) (.tmp 165) (by kernel_rfl) (by kernel_rfl) (by kernel_rfl) (hq) W) hS ?_
  try simp only [Act.put, z1, z2, z3]
  refine tkH (i := 6) (oi := ⟨some 169, .load 3 (.tmp 168), 3, "base.go:545", #[⟨5, .data⟩], none⟩) (v := .int .i64 (m.part n q)) (fun W h => Op1.ld_int (.tmp 168) (by kernel_rfl) (by kernel_rfl) W (by have := h.1.part n q hn8 hq; rw [Nat.zero_add] at this; exact this)) hS ?_
  try simp only [Act.put, z1, z2, z3]
  refine tkH (i := 7) (oi := ⟨some 170, .binOp .lss 3 (.tmp 169) (.const (.int .i64 0)) 3, 4, "base.go:545", #[⟨6, .data⟩], none⟩) (v := .bool (decide (m.part n q < 0))) (fun W h => Op1.lss0 (.tmp 169) (by kernel_rfl) (by kernel_rfl) (by kernel_rfl) W) hS ?_
  try simp only [Act.put, z1, z2, z3]
  refine wpAnyH_done (by kernel_rfl) ?_ _
  clear hS q0 nz
  generalize V1.drew = V2 at *
  have u1 : decide (m.part n q < 0) = true := by simpa using unhide HP
  rw [u1]
  have CI := hide (bData_any g m k V2 ((unhide N4).has (unhide HM)) ((unhide N4).hasD (unhide HM) (unhide HK)))
  generalize Img.freeData m k = fi at CI HF
  go_wp2_with fail
  refine (unhide CI).mono ?_
  rintro e wq ⟨rfl, e9⟩
  rw [e9]
  clear e9 wq
  have v1 := unhide HF
  go_wp2_with fail
  go_ret
  exact ⟨rfl, (unhide N4).after (unhide CM)⟩
set_option maxHeartbeats 4000000 in
set_option maxRecDepth 100000 in
theorem files0_chk (h : W.heap[g]? = some (.cells (cs ++ (ds ++ Sft.btl last t1 t2 t3 t4)) 55)) (kind dir toDir p : Int) (name tu text : ByteArray) (hn : name.size ≤ maxLen) (ht : tu.size ≤ maxLen) (hx : text.size ≤ maxLen) (hc : chk ⟨kind, dir, toDir, p, name, tu, text⟩ ≠ 0) :
    Calls Tryz.prog 44 #[.pointer (some ⟨g, 0, none⟩), .agg (stpA ⟨kind, dir, toDir, p, name, tu, text⟩)] W fun e w' => e = .returned (.int .i64 (chk ⟨kind, dir, toDir, p, name, tu, text⟩)) ∧ Bm W w' g (cs ++ (ds ++ Sft.btl last t1 t2 t3 t4)) := by
  have BEL := hide (show Below W.heap.size W (W.alloc (.cells (stpA ⟨kind, dir, toDir, p, name, tu, text⟩) 31)) from (Below.refl _ W).alloc (Nat.le_refl _) _)
  have C1 := hide (Idl.stepFault_any ⟨kind, dir, toDir, p, name, tu, text⟩ hn ht hx (W.alloc (.cells (stpA ⟨kind, dir, toDir, p, name, tu, text⟩) 31)))
  have M0 := hide ((Bm.start h).call (unhide BEL))
  have u1 : (chk ⟨kind, dir, toDir, p, name, tu, text⟩ != 0) = true := by simpa using hc
  generalize chk ⟨kind, dir, toDir, p, name, tu, text⟩ = cd at C1 u1
  clear hc h
  simp only [stpA] at C1
  go_enter Tryz.func44, Tryz.ntmps44
  go_wp2_with fail
  refine (unhide C1).mono ?_
  rintro e w1 ⟨rfl, b1⟩
  have B1 := hide ((unhide M0).call b1)
  clear b1
  go_wp2_with fail
  go_ret
  exact ⟨rfl, unhide B1⟩
end
end Go.Proofs.YtmbpckmpnnmnmacGreat
