/-
  The walk of the reference's (*Bed).Files0, whole, on any bed: make. (Written by genfa.py.)
-/
import Derived.Test.YtmbpckmpnnmnmacGreatZz
import Derived.Test.YtmbpckmpnnmnmacGreatXbg
namespace Go.Proofs.YtmbpckmpnnmnmacGreat
open Go.RowKit
open Idl (Stp chk stpA)
namespace Sft
def btl (last : Int) (a b c d : Value) : Array Value := #[.int .i64 last, a, b, c, d]
theorem btl_cell {cs ds : Array Value} {l : Int} {a b c d : Value} (hc : cs.size = 94) (hd : ds.size = 94) : (cs ++ (ds ++ btl l a b c d))[188]? = some (.int .i64 l) := by
  rw [Array.getElem?_append_right (by omega), Array.getElem?_append_right (by omega), hc, hd]; rfl
theorem btl_set {cs ds : Array Value} {l v : Int} {a b c d : Value} (hc : cs.size = 94) (hd : ds.size = 94) : (cs ++ (ds ++ btl l a b c d)).setIfInBounds 188 (.int .i64 v) = cs ++ (ds ++ btl v a b c d) := by
  rw [Array.setIfInBounds_append, if_neg (by omega), Array.setIfInBounds_append, if_neg (by omega), hc, hd]; rfl
theorem find_m1 {m : Img} {d : Nat} (hd : d < 3) {s : ByteArray} (hs : s.toList.isEmpty = false) (h : m.findAt (d : Int) s.toList < 0) : m.find d s.toList = -1 := by
  rw [findAt_in hd hs] at h
  unfold Img.find at h ⊢
  rcases Img.firstI_cases (fun t => (m.name d t).toList == s.toList) 4 with ⟨h1, _⟩ | ⟨k, _, h1, _⟩
  · exact h1
  · rw [h1] at h; omega
theorem put5_made {cs : Array Value} {n : Nat} {v : Int} (hs : cs.size = 94) (hn : n < 8) : ((put5v cs n Ino.none).setIfInBounds (n * 5) (.bool true)).setIfInBounds (n * 5 + 1) (.int .i64 v) = put5v cs n ⟨true, v, 0, -1, -1⟩ := by
  refine Array.ext_getElem? fun j => ?_
  have e5 : (put5v cs n Ino.none).size = 94 := by unfold put5v; simp [hs]
  rw [Array.getElem?_setIfInBounds, Array.getElem?_setIfInBounds, Array.size_setIfInBounds, e5]
  unfold put5v
  rw [set5_get (by omega), set5_get (by omega)]
  by_cases j1 : n * 5 + 1 = j
  · rw [if_pos j1, if_pos (by omega), if_neg (by omega), if_pos j1.symm]
  · rw [if_neg j1]
    by_cases j0 : n * 5 = j
    · rw [if_pos j0, if_pos (by omega), if_pos j0.symm]
    · have a0 : ¬ j = n * 5 := fun z => j0 z.symm
      have a1 : ¬ j = n * 5 + 1 := fun z => j1 z.symm
      simp only [if_neg j0, if_neg a0, if_neg a1, Ino.none]
theorem dropped_links {m : Img} (hx : Img.Ex m) {d j n : Nat} {nm : ByteArray} (hT : Img.There m (d : Int) nm j n) : Img.dropped m (d : Int) nm = if m.links n - 1 = 0 then ((m.putEnt d j Ent.none).putIno n ⟨m.live n, m.stamp n, m.links n - 1, m.part n 0, m.part n 1⟩).putIno n Ino.none else (m.putEnt d j Ent.none).putIno n ⟨m.live n, m.stamp n, m.links n - 1, m.part n 0, m.part n 1⟩ := by
  have hd3 : d < 3 := by have := hT.d3; omega
  have r1 := Img.clear_refs_yes (m := m) (n : Int) hd3 hT.k4 (Img.slot_leads hT.named hT.ino)
  have lk := hx.links n hT.n8 hT.live
  have er : ((m.putEnt d j Ent.none).putIno n ⟨m.live n, m.stamp n, m.links n - 1, m.part n 0, m.part n 1⟩).refs (n : Int) = (m.clear d j).refs (n : Int) := by rw [Img.putIno_refs]; rfl
  rw [(dropped_is hT).2, er]
  by_cases z : m.links n - 1 = 0
  · rw [if_pos z, if_pos (by omega)]
  · rw [if_neg z, if_neg (by omega)]
theorem put_at {m k : Img} (hm : m.check = 0) {d : Int} {nm : ByteArray} {j n q : Nat} (hT : Img.There m d nm j n) (hq : q < 2) (hdat : m.part n q < 0 → ¬ Img.freeData m k < 0) : ∃ x : Nat, x < 9 ∧ ((m.part n q < 0 ∧ Img.freeData m k = (x : Int)) ∨ m.part n q = (x : Int)) := by
  by_cases z : m.part n q < 0
  · obtain ⟨x, h1, h2, _⟩ := Img.dataAt (hdat z)
    exact ⟨x, h1, .inl ⟨z, h2⟩⟩
  · rcases Img.checkPart_iff.1 ((Img.inode_parts_ok hm hT.n8 hT.live).2.2 q hq) with y | ⟨y, _⟩
    · omega
    · have hb : 0 ≤ m.part n q ∧ m.part n q < 9 := by simpa [Img.isD] using y
      obtain ⟨x, hxx⟩ := Int.eq_ofNat_of_zero_le hb.1
      exact ⟨x, by omega, .inr hxx⟩
end Sft
section
variable {w0 w w' : World} {g : Nat} {cs ds tl : Array Value} {m k : Img}
theorem Bd.after (h : Idl.Chg (fun i => i = g) w0 w) (hb : Bd w w' g ds tl m) : Bd w0 w' g ds tl m := by
  obtain ⟨cs, b, hm⟩ := hb
  exact ⟨cs, ⟨b.row, h.trans b.chg (fun i hi => .inl hi)⟩, hm⟩
theorem Bd.dat (h : Bm w0 w g (cs ++ (ds ++ tl))) (hm : IsImg cs m) {x : Nat} (hx : x < 9) (o : Int) (t : ByteArray) (ht : t.size ≤ maxLen) : Bd w0 (w.setRow g (splice (cs ++ (ds ++ tl)) (76 + x * 2) #[.int .i64 o, .string t])) g ds tl (m.putData x o t) := by
  rw [splice2 hm.size hx]
  exact ⟨_, h.row' _, hm.putData hx o t ht⟩
theorem Bd.part (h : Bm w0 w g (cs ++ (ds ++ tl))) (hm : IsImg cs m) {n p : Nat} (hn : n < 8) (hp : p < 2) (v : Int) : Bd w0 (w.setCell ⟨g, n * 5 + 3 + p, none⟩ (.int .i64 v)) g ds tl (m.setPart n p v) :=
  ⟨_, by rw [← app_set hm.size (by omega)]; exact h.set _ _, hm.putPart hn hp v⟩
end
section
variable {w W : World} {g : Nat} {cs ds : Array Value} {m k : Img} {last : Int} {t1 t2 t3 t4 : Value}
set_option maxHeartbeats 4000000 in
set_option maxRecDepth 100000 in
theorem files0_make (h : W.heap[g]? = some (.cells (cs ++ (ds ++ Sft.btl last t1 t2 t3 t4)) 55)) (hm : IsImg cs m) (hk : IsImg ds k) (hG : Img.Good m last) (hla : last < 4611686018427387904) (dir toDir p : Int) (name tu text : ByteArray) (hn : name.size ≤ maxLen) (ht : tu.size ≤ maxLen) (hx : text.size ≤ maxLen) (hc : Img.scode m k ⟨1, dir, toDir, p, name, tu, text⟩ = 0) :
    Calls Tryz.prog 44 #[.pointer (some ⟨g, 0, none⟩), .agg (stpA ⟨1, dir, toDir, p, name, tu, text⟩)] W fun e w' => e = .returned (.int .i64 0) ∧ Bd W w' g ds (Sft.btl (Img.slast m k last ⟨1, dir, toDir, p, name, tu, text⟩) t1 t2 t3 t4) (Img.sstep m k last ⟨1, dir, toDir, p, name, tu, text⟩) := by
  have tk := Img.take hc
  have hst : Img.sstep m k last ⟨1, dir, toDir, p, name, tu, text⟩ = Img.added (Img.started m k last) k dir name (Img.freeIno m k).toNat := by
    rcases Img.sstep_cases (last := last) hc with ⟨z, e⟩ | ⟨z, e⟩ | ⟨z, e⟩ | ⟨z, e⟩ | ⟨z, e⟩ | ⟨z, e⟩
    all_goals first | exact e | (exfalso; revert z; decide) | (simp at z)
  have hsl : Img.slast m k last ⟨1, dir, toDir, p, name, tu, text⟩ = last + 1 := by unfold Img.slast; first | rw [if_pos ⟨hc, rfl⟩] | rw [if_neg (fun z => by have := z.2; simp at this)]
  rw [hst, hsl]
  clear hst hsl
  have hne := Img.nm_ne tk.name
  have d0' : 0 ≤ dir := tk.dir.1
  have d3' : dir < 3 := tk.dir.2
  obtain ⟨d, rfl⟩ := Int.eq_ofNat_of_zero_le d0'
  have hd3 : d < 3 := by omega
  have hck := tk.chk
  obtain ⟨n, s, hC⟩ := Img.comes hG hc rfl
  have hfd : m.find d name.toList = -1 := Sft.find_m1 hd3 hne ((Img.inoOf_neg hG.ex.ok).1 (tk.new rfl))
  have hn8 := hC.n8
  have hs4 := hC.slot.s4
  have hIno := hide hC.ino
  have hst1 : Img.started m k last = m.putIno n ⟨true, last + 1, 0, -1, -1⟩ := by unfold Img.started; rw [hC.ino, Int.toNat_natCast]
  have HS1 := hide hC.slot'.eq
  rw [hst1] at HS1
  rw [hst1, hC.ino, Int.toNat_natCast]
  have HNP := hide (show Img.noPlace m k (d : Int) name = false by
    have h1 := (scode_zero hc).2
    unfold Img.sfull at h1
    rw [if_pos rfl] at h1
    exact (Bool.or_eq_false_iff.1 h1).2)
  have hw : IntKind.i64.wrap (last + 1) = last + 1 := IntWalk.i64_in _ (by have := hG.lo; omega)
  have nz : (n : Int) < 8 := by omega
  have nn : decide ((n : Int) < 0) = false := by simp
  clear hc tk hC hst1 d0' d3' hG hla
  have BEL := hide (show Below W.heap.size W (W.alloc (.cells (stpA ⟨1, (d : Int), toDir, p, name, tu, text⟩) 31)) from (Below.refl _ W).alloc (Nat.le_refl _) _)
  have C1 := hide (Idl.stepFault_any ⟨1, (d : Int), toDir, p, name, tu, text⟩ hn ht hx (W.alloc (.cells (stpA ⟨1, (d : Int), toDir, p, name, tu, text⟩) 31)))
  rw [hck] at C1
  have HC := hide fun W' bW => stp_box W ⟨1, (d : Int), toDir, p, name, tu, text⟩ W' bW
  have M0 := hide ((Bm.start h).call (unhide BEL))
  have GN := hide (show W.heap.size ≠ g from by have := (Array.getElem?_eq_some_iff.1 h).1; omega)
  have RX := hide (heap_alloc_last W (.cells (stpA ⟨1, (d : Int), toDir, p, name, tu, text⟩) 31))
  have HM := hide hm
  have HK := hide hk
  have HFD := hide hfd
  clear h hck hfd hm hk
  simp only [stpA] at C1
  go_enter Tryz.func44, Tryz.ntmps44
  go_wp2_with fail
  refine (unhide C1).mono ?_
  rintro e w1 ⟨rfl, b1⟩
  have M1 := hide ((unhide M0).call b1)
  have HD := hide (b1.trans ((Below.refl w1.heap.size w1).drew.mono b1.size))
  have M2 := hide ((unhide M1).call (Below.refl w1.heap.size w1).drew)
  clear b1 C1 M0 M1
  generalize W.heap.size = gx at *
  go_wp2_with fail
  refine wp_region_held_drew (S := fun W' => HasAt W' g 0 m ∧ W'.cell? ⟨gx, 1, none⟩ = some (.int .i64 (d : Int)) ∧ W'.cell? ⟨gx, 4, none⟩ = some (.string name)) (by kernel_rfl) (⟨(unhide M2).has (unhide HM), unhide HC _ (unhide HD) 1 _ rfl, unhide HC _ (unhide HD) 4 _ rfl⟩) (fun hS => ?_)
  refine tkP (i := 0) (oi := ⟨some 16, .move (.tmp 0), 27, "base.go:507", #[], none⟩) (v := .pointer (some ⟨g, 0, none⟩)) hS ?_
  try simp only [Act.put, z1, z2, z3]
  refine tkP (i := 1) (oi := ⟨some 17, .nilCheck (.tmp 16), 0, "base.go:507", #[⟨0, .data⟩], none⟩) (v := .pointer (some ⟨g, 0, none⟩)) hS ?_
  try simp only [Act.put, z1, z2, z3]
  refine tkP (i := 2) (oi := ⟨some 18, .fieldAddr 55 (.tmp 17) 0, 0, "base.go:507", #[⟨1, .data⟩], none⟩) (v := .pointer (some ⟨g, 0, none⟩)) hS ?_
  try simp only [Act.put, z1, z2, z3]
  refine tkP (i := 3) (oi := ⟨some 19, .fieldAddr 31 (.tmp 3) 1, 0, "base.go:507", #[], none⟩) (v := .pointer (some ⟨gx, 1, none⟩)) hS ?_
  try simp only [Act.put, z1, z2, z3]
  refine tkH (i := 4) (oi := ⟨some 20, .load 3 (.tmp 19), 3, "base.go:507", #[⟨3, .data⟩], none⟩) (v := .int .i64 (d : Int)) (fun W h => Op1.ld_int (.tmp 19) (by kernel_rfl) (by kernel_rfl) W (h.2.1)) hS ?_
  try simp only [Act.put, z1, z2, z3]
  refine tkP (i := 5) (oi := ⟨some 21, .fieldAddr 31 (.tmp 3) 4, 0, "base.go:507", #[], none⟩) (v := .pointer (some ⟨gx, 4, none⟩)) hS ?_
  try simp only [Act.put, z1, z2, z3]
  refine tkH (i := 6) (oi := ⟨some 22, .load 9 (.tmp 21), 9, "base.go:507", #[⟨5, .data⟩], none⟩) (v := .string name) (fun W h => Op1.ld_str (.tmp 21) (by kernel_rfl) (by kernel_rfl) W (h.2.2)) hS ?_
  try simp only [Act.put, z1, z2, z3]
  refine wpAnyH_ready (rs := [7]) (by kernel_rfl) (by simp) ?_
  refine AllReadyH.cons (o := ⟨some 23, .call { callee := .value (.func 53), args := #[.tmp 18, .tmp 20, .tmp 22], argTypes := #[64, 3, 9] }, 3, "base.go:507", #[⟨2, .data⟩, ⟨4, .data⟩, ⟨6, .data⟩], none⟩) rfl (fun K hK => ?_) AllReadyH.nil
  rw [if_pos (by kernel_rfl)]
  go_simp
  refine (rSlotOf_in g m d hd3 name hne _ ((unhide M2).has (unhide HM))).mono ?_
  rintro e w2 ⟨rfl, e9⟩
  rw [e9]
  clear e9 w2
  rw [unhide HFD]
  go_wp2_with fail
  refine hK.out _ _ (hS) (fun hS2 => ?_)
  clear hK K
  try simp only [Act.put, z1, z2, z3]
  refine tkP (i := 8) (oi := ⟨some 6, .assign (.tmp 23), 3, "base.go:507", #[⟨7, .data⟩, ⟨7, .chain⟩, ⟨0, .phase⟩, ⟨1, .phase⟩, ⟨2, .phase⟩, ⟨3, .phase⟩, ⟨4, .phase⟩, ⟨5, .phase⟩, ⟨6, .phase⟩, ⟨7, .phase⟩], none⟩) (v := .int .i64 (-1)) hS2 ?_
  try simp only [Act.put, z1, z2, z3]
  refine wpAnyH_done (by kernel_rfl) ?_ _
  clear hS hS2
  have RV : w1.drew.heap[gx]? = some (.cells (stpA ⟨1, (d : Int), toDir, p, name, tu, text⟩) 31) := by
    rw [(unhide HD).block gx (Array.getElem?_eq_some_iff.1 (unhide RX)).1]; exact unhide RX
  have hgl : gx < w1.drew.heap.size := (Array.getElem?_eq_some_iff.1 RV).1
  have QB := hide (show ∀ (W' : World) (rows : Array Value), Bm w1.drew W' g rows → ∀ j u, (stpA ⟨1, (d : Int), toDir, p, name, tu, text⟩)[j]? = some u → W'.cell? ⟨gx, j, none⟩ = some u from fun W' rows N j u hj => by rw [cell_of_row _ _ _ _ _ _ ((N.chg.block gx hgl (unhide GN)).trans RV)]; exact hj)
  have N2 := hide (Bm.start (unhide M2).row)
  have CM := hide (unhide M2).chg
  clear RV hgl HC HD M2 BEL RX HFD GN
  generalize w1.drew = V at *
  have q0 := unhide QB _ _ (unhide N2) 0 _ rfl
  have q1 := unhide QB _ _ (unhide N2) 1 _ rfl
  have q4 := unhide QB _ _ (unhide N2) 4 _ rfl
  have CI := hide (bIno_any g m k V ((unhide N2).has (unhide HM)) ((unhide N2).hasD (unhide HM) (unhide HK)))
  rw [unhide hIno] at CI
  have CR := hide (Sft.rRoom_any g m k d hd3 name hne V ((unhide N2).has (unhide HM)) ((unhide N2).hasD (unhide HM) (unhide HK)))
  rw [unhide HNP] at CR
  go_wp2_with fail
  refine (unhide CI).mono ?_
  rintro e wq ⟨rfl, e9⟩
  rw [e9]
  clear e9 wq
  go_wp2_with fail
  refine (unhide CR).mono ?_
  rintro e w3 ⟨rfl, b3⟩
  have N3 := hide ((unhide N2).call b3)
  have c8 : w3.cell? ⟨g, 188, none⟩ = some (.int .i64 last) := by rw [cell_of_row _ _ 188 _ _ _ (unhide N3).row]; exact Sft.btl_cell (unhide HM).size (unhide HK).size
  have f8 := (unhide N3).frozen 188
  have l8 := (unhide N3).lt
  have N4 := hide ((unhide N3).set 188 (.int .i64 (last + 1)))
  rw [Sft.btl_set (unhide HM).size (unhide HK).size] at N4
  clear b3 q0 q1 q4 nn
  go_wp2_with fail
  generalize w3.setCell ⟨g, 188, none⟩ (.int .i64 (last + 1)) = W4 at N4 ⊢
  have N4d := hide ((unhide N4).call (Below.refl _ _).drew)
  clear c8 f8 l8 N3 hw
  refine wp_region_F (S := fun _ => True) 7 (by kernel_rfl) (trivial) (fun hS => ?_)
  refine wpAnyF_take (i := 0) (oi := ⟨some 49, .move (.tmp 0), 27, "base.go:517", #[], none⟩) (v := .pointer (some ⟨g, 0, none⟩)) rfl (by kernel_rfl) (by kernel_rfl) (by kernel_rfl) (by kernel_rfl) (fun _ _ _ h => h) (Or.inl ⟨by kernel_rfl, fun W h => (by first | kernel_rfl | go_simp)⟩) hS ?_
  try simp only [Act.put, z1, z2, z3]
  refine wpAnyF_take (i := 1) (oi := ⟨some 50, .move (.tmp 7), 3, "base.go:517", #[], none⟩) (v := .int .i64 (n : Int)) rfl (by kernel_rfl) (by kernel_rfl) (by kernel_rfl) (by kernel_rfl) (fun _ _ _ h => h) (Or.inl ⟨by kernel_rfl, fun W h => (by first | kernel_rfl | go_simp)⟩) hS ?_
  try simp only [Act.put, z1, z2, z3]
  refine wpAnyF_free (i := 3) (oi := ⟨some 52, .nilCheck (.tmp 49), 0, "base.go:517", #[⟨0, .data⟩], none⟩) (v := .pointer (some ⟨g, 0, none⟩)) rfl (by kernel_rfl) (by kernel_rfl) (by kernel_rfl) (by kernel_rfl) (fun _ _ _ h => h) (Or.inl ⟨by kernel_rfl, fun W _ => (by first | kernel_rfl | go_simp)⟩) hS ?_
  try simp only [Act.put, z1, z2, z3]
  refine wpAnyF_free (i := 4) (oi := ⟨some 53, .fieldAddr 55 (.tmp 52) 0, 0, "base.go:517", #[⟨3, .data⟩], none⟩) (v := .pointer (some ⟨g, 0, none⟩)) rfl (by kernel_rfl) (by kernel_rfl) (by kernel_rfl) (by kernel_rfl) (fun _ _ _ h => h) (Or.inl ⟨by kernel_rfl, fun W _ => (by first | kernel_rfl | go_simp)⟩) hS ?_
  try simp only [Act.put, z1, z2, z3]
  refine wpAnyF_free (i := 5) (oi := ⟨some 54, .fieldAddr 44 (.tmp 53) 0, 0, "base.go:517", #[⟨4, .data⟩], none⟩) (v := .pointer (some ⟨g, 0, none⟩)) rfl (by kernel_rfl) (by kernel_rfl) (by kernel_rfl) (by kernel_rfl) (fun _ _ _ h => h) (Or.inl ⟨by kernel_rfl, fun W _ => (by first | kernel_rfl | go_simp)⟩) hS ?_
  try simp only [Act.put, z1, z2, z3]
  refine wpAnyF_one (i := 2) (o := ⟨some 51, .call { callee := .value (.func 54), args := #[], argTypes := #[] }, 34, "base.go:517", #[], none⟩) (by kernel_rfl) rfl (by kernel_rfl) (fun K hK => ?_)
  go_simp
  refine (none_any _).mono ?_
  rintro e w5 ⟨rfl, b5⟩
  have N5 := hide ((unhide N4d).call b5)
  clear b5
  go_wp2_with fail
  have hS5 := trivial
  refine hK.out _ _ (fun _ => hS5) ?_
  clear hK K
  try simp only [Act.put, z1, z2, z3]
  refine wpAnyF_take (i := 6) (oi := ⟨some 55, .indexAddr 35 (.tmp 54) (.tmp 50), 0, "base.go:517", #[⟨5, .data⟩, ⟨1, .data⟩, ⟨0, .phase⟩, ⟨1, .phase⟩, ⟨2, .phase⟩], none⟩) (v := .pointer (some ⟨g, n * 5, none⟩)) rfl (by kernel_rfl) (by kernel_rfl) (by kernel_rfl) (by kernel_rfl) (fun _ _ _ h => h) (Or.inl ⟨by kernel_rfl, fun W h => Op1.ix_ino (.tmp 54) (.tmp 50) (by kernel_rfl) (by kernel_rfl) (by kernel_rfl) (hn8) W⟩) hS5 ?_
  try simp only [Act.put, z1, z2, z3]
  refine wpAnyF_last (o := ⟨none, .store 34 (.tmp 55) (.tmp 51), 0, "base.go:517", #[⟨6, .data⟩, ⟨2, .data⟩, ⟨2, .chain⟩, ⟨0, .phase⟩, ⟨1, .phase⟩, ⟨2, .phase⟩], none⟩) (by kernel_rfl) rfl (by kernel_rfl) (by kernel_rfl) (fun K hK => ?_)
  refine Op1.st_part (cells := #[.bool false, .int .i64 0, .int .i64 0, .int .i64 (-1), .int .i64 (-1)]) (o0 := n * 5) 34 (.tmp 55) (.tmp 51) (by kernel_rfl) rfl (by kernel_rfl) (by kernel_rfl) (unhide N5).row sz_ino (by have := (unhide HM).size; simp; omega) (by kernel_rfl) ?_
  refine hK.out _ _ ?_
  clear hK K
  try simp only [Act.put, z1, z2, z3]
  refine wpAnyF_done (by kernel_rfl) ?_ _
  have N6 := hide ((unhide N5).row' (splice (cs ++ (ds ++ Sft.btl (last + 1) t1 t2 t3 t4)) (n * 5) #[.bool false, .int .i64 0, .int .i64 0, .int .i64 (-1), .int .i64 (-1)]))
  have e6 : splice (cs ++ (ds ++ Sft.btl (last + 1) t1 t2 t3 t4)) (n * 5) #[.bool false, .int .i64 0, .int .i64 0, .int .i64 (-1), .int .i64 (-1)] = put5v cs n Ino.none ++ (ds ++ Sft.btl (last + 1) t1 t2 t3 t4) := splice5 (n := n) (unhide HM).size hn8 Ino.none
  generalize w5.setRow g (splice (cs ++ (ds ++ Sft.btl (last + 1) t1 t2 t3 t4)) (n * 5) #[.bool false, .int .i64 0, .int .i64 0, .int .i64 (-1), .int .i64 (-1)]) = W6 at N6 ⊢
  rw [e6] at N6
  have z6 : (put5v cs n Ino.none).size = 94 := by unfold put5v; simp [(unhide HM).size]
  have c6 : W6.cell? ⟨g, n * 5, none⟩ = some (.bool false) := by
    have := ((unhide N6).has ((unhide HM).putIno hn8 Ino.none)).live n hn8
    rw [Nat.zero_add, Img.putIno_live, if_pos rfl] at this; exact this
  have f6 := (unhide N6).frozen (n * 5)
  have l6 := (unhide N6).lt
  have N7 := hide ((unhide N6).set (n * 5) (.bool true))
  rw [app_set z6 (by omega)] at N7
  clear e6 N5 N4 N4d
  go_wp2_with fail
  generalize W6.setCell ⟨g, n * 5, none⟩ (.bool true) = W7 at N7 ⊢
  have N7d := hide ((unhide N7).call (Below.refl _ _).drew)
  have c7 : W7.drew.cell? ⟨g, n * 5 + 1, none⟩ = some (.int .i64 0) := by
    rw [cell_of_row _ _ _ _ _ _ (unhide N7d).row]
    rw [Array.getElem?_append_left (by simp [z6]; omega), Array.getElem?_setIfInBounds, if_neg (by omega)]
    unfold put5v
    rw [set5_get (by have := (unhide HM).size; omega), if_neg (by omega), if_pos rfl]; rfl
  have C7 := hide c7
  clear c6 f6 l6 N6 c7
  refine wp_region_F (S := fun W' => W'.cell? ⟨g, 188, none⟩ = some (.int .i64 (last + 1))) 11 (by kernel_rfl) (by rw [cell_of_row _ _ 188 _ _ _ (unhide N7d).row]; exact Sft.btl_cell (by simpa using z6) (unhide HK).size) (fun hS => ?_)
  refine wpAnyF_take (i := 0) (oi := ⟨some 63, .move (.tmp 0), 27, "base.go:519", #[], none⟩) (v := .pointer (some ⟨g, 0, none⟩)) rfl (by kernel_rfl) (by kernel_rfl) (by kernel_rfl) (by kernel_rfl) (fun _ _ _ h => h) (Or.inl ⟨by kernel_rfl, fun W h => (by first | kernel_rfl | go_simp)⟩) hS ?_
  try simp only [Act.put, z1, z2, z3]
  refine wpAnyF_take (i := 1) (oi := ⟨some 64, .move (.tmp 7), 3, "base.go:519", #[], none⟩) (v := .int .i64 (n : Int)) rfl (by kernel_rfl) (by kernel_rfl) (by kernel_rfl) (by kernel_rfl) (fun _ _ _ h => h) (Or.inl ⟨by kernel_rfl, fun W h => (by first | kernel_rfl | go_simp)⟩) hS ?_
  try simp only [Act.put, z1, z2, z3]
  refine wpAnyF_take (i := 2) (oi := ⟨some 65, .move (.tmp 0), 27, "base.go:519", #[], none⟩) (v := .pointer (some ⟨g, 0, none⟩)) rfl (by kernel_rfl) (by kernel_rfl) (by kernel_rfl) (by kernel_rfl) (fun _ _ _ h => h) (Or.inl ⟨by kernel_rfl, fun W h => (by first | kernel_rfl | go_simp)⟩) hS ?_
  try simp only [Act.put, z1, z2, z3]
  refine wpAnyF_take (i := 3) (oi := ⟨some 66, .nilCheck (.tmp 65), 0, "base.go:519", #[⟨2, .data⟩], none⟩) (v := .pointer (some ⟨g, 0, none⟩)) rfl (by kernel_rfl) (by kernel_rfl) (by kernel_rfl) (by kernel_rfl) (fun _ _ _ h => h) (Or.inl ⟨by kernel_rfl, fun W h => (by first | kernel_rfl | go_simp)⟩) hS ?_
  try simp only [Act.put, z1, z2, z3]
  refine wpAnyF_take (i := 4) (oi := ⟨some 67, .fieldAddr 55 (.tmp 66) 2, 0, "base.go:519", #[⟨3, .data⟩], none⟩) (v := .pointer (some ⟨g, 188, none⟩)) rfl (by kernel_rfl) (by kernel_rfl) (by kernel_rfl) (by kernel_rfl) (fun _ _ _ h => h) (Or.inl ⟨by kernel_rfl, fun W h => (by first | kernel_rfl | go_simp)⟩) hS ?_
  try simp only [Act.put, z1, z2, z3]
  refine wpAnyF_take (i := 5) (oi := ⟨some 68, .load 3 (.tmp 67), 3, "base.go:519", #[⟨4, .data⟩], none⟩) (v := .int .i64 (last + 1)) rfl (by kernel_rfl) (by kernel_rfl) (by kernel_rfl) (by kernel_rfl) (fun _ _ _ h => h) (Or.inl ⟨by kernel_rfl, fun W h => Op1.ld_int (.tmp 67) (by kernel_rfl) (by kernel_rfl) W (h)⟩) hS ?_
  try simp only [Act.put, z1, z2, z3]
  refine wpAnyF_free (i := 6) (oi := ⟨some 69, .nilCheck (.tmp 63), 0, "base.go:519", #[⟨0, .data⟩], none⟩) (v := .pointer (some ⟨g, 0, none⟩)) rfl (by kernel_rfl) (by kernel_rfl) (by kernel_rfl) (by kernel_rfl) (fun _ _ _ h => h) (Or.inl ⟨by kernel_rfl, fun W _ => (by first | kernel_rfl | go_simp)⟩) hS ?_
  try simp only [Act.put, z1, z2, z3]
  refine wpAnyF_free (i := 7) (oi := ⟨some 70, .fieldAddr 55 (.tmp 69) 0, 0, "base.go:519", #[⟨6, .data⟩], none⟩) (v := .pointer (some ⟨g, 0, none⟩)) rfl (by kernel_rfl) (by kernel_rfl) (by kernel_rfl) (by kernel_rfl) (fun _ _ _ h => h) (Or.inl ⟨by kernel_rfl, fun W _ => (by first | kernel_rfl | go_simp)⟩) hS ?_
  try simp only [Act.put, z1, z2, z3]
  refine wpAnyF_free (i := 8) (oi := ⟨some 71, .fieldAddr 44 (.tmp 70) 0, 0, "base.go:519", #[⟨7, .data⟩], none⟩) (v := .pointer (some ⟨g, 0, none⟩)) rfl (by kernel_rfl) (by kernel_rfl) (by kernel_rfl) (by kernel_rfl) (fun _ _ _ h => h) (Or.inl ⟨by kernel_rfl, fun W _ => (by first | kernel_rfl | go_simp)⟩) hS ?_
  try simp only [Act.put, z1, z2, z3]
  refine wpAnyF_free (i := 9) (oi := ⟨some 72, .indexAddr 35 (.tmp 71) (.tmp 64), 0, "base.go:519", #[⟨8, .data⟩, ⟨1, .data⟩, ⟨0, .phase⟩, ⟨1, .phase⟩, ⟨2, .phase⟩, ⟨3, .phase⟩, ⟨4, .phase⟩, ⟨5, .phase⟩], none⟩) (v := .pointer (some ⟨g, n * 5, none⟩)) rfl (by kernel_rfl) (by kernel_rfl) (by kernel_rfl) (by kernel_rfl) (fun _ _ _ h => h) (Or.inl ⟨by kernel_rfl, fun W _ => Op1.ix_ino (.tmp 71) (.tmp 64) (by kernel_rfl) (by kernel_rfl) (by kernel_rfl) (hn8) W⟩) hS ?_
  try simp only [Act.put, z1, z2, z3]
  refine wpAnyF_take (i := 10) (oi := ⟨some 73, .fieldAddr 34 (.tmp 72) 1, 0, "base.go:519", #[⟨9, .data⟩, ⟨0, .phase⟩, ⟨1, .phase⟩, ⟨2, .phase⟩, ⟨3, .phase⟩, ⟨4, .phase⟩, ⟨5, .phase⟩], none⟩) (v := .pointer (some ⟨g, n * 5 + 1, none⟩)) rfl (by kernel_rfl) (by kernel_rfl) (by kernel_rfl) (by kernel_rfl) (fun _ _ _ h => h) (Or.inl ⟨by kernel_rfl, fun W h => (by first | kernel_rfl | go_simp)⟩) hS ?_
  try simp only [Act.put, z1, z2, z3]
  refine wpAnyF_last (o := ⟨none, .store 3 (.tmp 73) (.tmp 68), 0, "base.go:519", #[⟨10, .data⟩, ⟨5, .data⟩, ⟨0, .phase⟩, ⟨1, .phase⟩, ⟨2, .phase⟩, ⟨3, .phase⟩, ⟨4, .phase⟩, ⟨5, .phase⟩], none⟩) (by kernel_rfl) rfl (by kernel_rfl) (by kernel_rfl) (fun K hK => ?_)
  refine Op1.st_int (.tmp 73) (.tmp 68) (by kernel_rfl) rfl (g := g) (o0 := n * 5 + 1) (v := last + 1) (by kernel_rfl) (by kernel_rfl) (u := .int .i64 0) (unhide C7) ((unhide N7d).frozen _) ?_
  refine hK.out _ _ ?_
  clear hK K
  try simp only [Act.put, z1, z2, z3]
  refine wpAnyF_done (by kernel_rfl) ?_ _
  have N8 := hide ((unhide N7d).set (n * 5 + 1) (.int .i64 (last + 1)))
  rw [app_set (by simpa using z6) (by omega), Sft.put5_made (unhide HM).size hn8] at N8
  generalize World.setCell _ _ _ = W8 at N8 ⊢
  have q1 := unhide QB _ _ (unhide N8) 1 _ rfl
  have q4 := unhide QB _ _ (unhide N8) 4 _ rfl
  have A := hide (rAdd_any (unhide N8) ((unhide HM).putIno hn8 _) (unhide HK) hd3 hn8 hs4 (unhide HS1) name hn (by rw [Img.putIno_links, if_pos rfl]; simp))
  clear N7 N7d C7 hS hS5
  go_wp2_with fail
  refine (unhide A).mono ?_
  rintro e w9 ⟨rfl, n9⟩
  have NE := hide (Bd.after (unhide CM) n9)
  clear n9 q1 q4
  go_wp2_with fail
  go_ret
  exact ⟨rfl, unhide NE⟩
end
end Go.Proofs.YtmbpckmpnnmnmacGreat
