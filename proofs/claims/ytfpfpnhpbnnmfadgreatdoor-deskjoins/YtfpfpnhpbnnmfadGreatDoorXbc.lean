/-
  The walks of slices.Equal over inodes, and of package cache: Dirty.
-/
import Derived.Test.YtfpfpnhpbnnmfadGreatDoorXap
import Derived.Test.YtfpfpnhpbnnmfadGreatDoorXbb
import Derived.Test.YtfpfpnhpbnnmfadGreatDoorXak
namespace Go.Proofs.YtfpfpnhpbnnmfadGreatDoor
open Go.RowKit
/-- an inode's cells -/
structure InoAt (w : World) (g o : Nat) (i : Ino) : Prop where
  live : w.cell? ⟨g, o, none⟩ = some (.bool i.live)
  stamp : w.cell? ⟨g, o + 1, none⟩ = some (.int .i64 i.stamp)
  links : w.cell? ⟨g, o + 2, none⟩ = some (.int .i64 i.links)
  p0 : w.cell? ⟨g, o + 3 + 0, none⟩ = some (.int .i64 i.p0)
  p1 : w.cell? ⟨g, o + 3 + 1, none⟩ = some (.int .i64 i.p1)
set_option maxHeartbeats 1000000 in
theorem eqSl_any (g o1 o2 c1 c2 : Nat) (I J : Nat → Ino) (w : World) (h1 : ∀ j, j < 4 → InoAt w g (o1 + j * 5) (I j)) (h2 : ∀ j, j < 4 → InoAt w g (o2 + j * 5) (J j)) :
    Calls Tryz.prog 126 #[.slice (some ⟨g, o1, none⟩) 4 c1, .slice (some ⟨g, o2, none⟩) 4 c2] w fun e w' => e = .returned (.bool ((List.range 4).all fun j => inoB (I j) (J j))) ∧ ∃ q, w' = w.drewN q := by
  have H1 := hide h1
  have H2 := hide h2
  clear h1 h2
  go_enter Tryz.func126, Tryz.ntmps126
  go_wp2_with fail
  go_loopw [13] (fun i wr => ∃ j q : Nat, j ≤ 4 ∧ i = .int .i64 j ∧ Hid (∀ t, t < j → inoB (I t) (J t) = true) ∧ wr = w.drewN q) (fun i _ => 4 - (intOf i).toNat)
  case atStart => exact ⟨0, 0, by omega, rfl, hide fun t ht => by omega, rfl⟩
  case round =>
    obtain ⟨j, q, hj, rfl, HA, rfl⟩ := hrel
    by_cases hlt : j < 4
    · have t4 : decide ((j : Int) < 4) = true := by simp; omega
      have jz : (j : Int) < 4 := by omega
      obtain ⟨a0, a1, a2, a3, a4⟩ := unhide H1 j hlt
      obtain ⟨b0, b1, b2, b3, b4⟩ := unhide H2 j hlt
      have qq := neqlInode (I j) (J j)
      unfold inoV at qq
      cases hq : inoB (I j) (J j)
      · have HE := hide (show ((List.range 4).all fun j => inoB (I j) (J j)) = false from by
          cases e : (List.range 4).all fun j => inoB (I j) (J j)
          · rfl
          · rw [List.all_eq_true] at e; have := e j (List.mem_range.2 hlt); rw [hq] at this; cases this)
        rw [hq] at qq
        go_wp2_with fail
        go_quiet (fail)
        go_wp2_with fail
        go_ret
        exact ⟨by rw [unhide HE]; rfl, by first | exact ⟨_, rfl⟩ | exact ⟨_, drewNs⟩⟩
      · rw [hq] at qq
        go_wp2_with fail
        go_quiet (fail)
        go_wp2_with fail
        go_roundw
        case rel => exact ⟨j + 1, _, by omega, by go_num, hide fun t ht => by
          by_cases e : t = j
          · subst e; exact hq
          · exact unhide HA t (by omega), by first | rfl | exact drewNs⟩
        case measure => simp [intOf]; omega
    · have t4 : decide ((j : Int) < 4) = false := by simp; omega
      have ej : j = 4 := by omega
      subst ej
      have HE := hide (show ((List.range 4).all fun j => inoB (I j) (J j)) = true from by rw [List.all_eq_true]; exact fun t ht => unhide HA t (List.mem_range.1 ht))
      go_wp2_with fail
      go_ret
      exact ⟨by rw [unhide HE]; rfl, _, rfl⟩
theorem HasAt.inoAt {w : World} {g o : Nat} {m : Img} (h : HasAt w g o m) {n : Nat} (hn : n < 8) : InoAt w g (o + n * 5) (m.inode n) := ⟨h.live n hn, h.stamp n hn, h.links n hn, h.part n 0 hn (by omega), h.part n 1 hn (by omega)⟩
theorem quiet_up {P : Program} {f : FuncId} {args : Array Value} {w : World} {n : Nat} {v : Value}
    (h : Calls P f args (w.drewN n) fun e w' => e = .returned v ∧ ∃ q, w' = (w.drewN n).drewN q) : Calls P f args (w.drewN n) fun e w'' => e = .returned v ∧ ∃ m, w'' = w.drewN m :=
  h.mono fun _ _ ⟨he, q, hm⟩ => ⟨he, n + q, by rw [hm, drewNN]⟩
set_option maxRecDepth 100000 in
set_option maxHeartbeats 2000000 in
theorem dirty_ino0 (g : Nat) (cs ds : Array Value) (m k : Img) (hi : IsImg cs m) (hj : IsImg ds k) (w : World) (hg : w.heap[g]? = some (.cells (cs ++ ds) 141)) :
    Calls Tryz.prog 92 #[.pointer (some ⟨g, 0, none⟩), .int .i64 0] w fun e w' => e = .returned (.bool (Img.dirty m k 0)) ∧ Below w.heap.size w w' := by
  have hgl : g < w.heap.size := (Array.getElem?_eq_some_iff.1 hg).1
  have E : Img.dirty m k 0 = !((List.range 4).all fun j => inoB (m.inode (0 + j)) (k.inode (0 + j))) := (Img.dirty_ino (now := m) (disk := k) (k := 0) (by omega)).trans rfl
  rw [E]
  clear E
  have C := hide (fun (q : Nat) => eqSl_any g 0 94 8 8 (fun j => m.inode (0 + j)) (fun j => k.inode (0 + j)) (w.drewN q)
    (fun j hj4 => by have := (two_has hi hj hg q).1.inoAt (n := 0 + j) (by omega); rw [show 0 + (0 + j) * 5 = 0 + j * 5 by omega] at this; exact this)
    (fun j hj4 => by have := (two_has hi hj hg q).2.inoAt (n := 0 + j) (by omega); rw [show 94 + (0 + j) * 5 = 94 + j * 5 by omega] at this; exact this))
  generalize ((List.range 4).all fun j => inoB (m.inode (0 + j)) (k.inode (0 + j))) = v at C
  have kk := kind_ino (k := 0) (by omega)
  go_enter Tryz.func92, Tryz.ntmps92
  go_wp2_with fail
  refine (block_any _ _).mono ?_
  rw [show kindS 0 = ⟨#[105, 110, 111, 100, 101, 115]⟩ from kk.1, show kindN 0 = 0 from kk.2]
  rintro e w1 ⟨rfl, e1⟩
  rw [e1]
  clear e1 w1 kk
  go_wp2_with fail
  go_quiet ((go_at_call 126; exact quiet_up (unhide C _)))
  go_wp2_with fail
  go_ret
  exact ⟨rfl, by first | exact belowN (Below.refl _ _) | exact (Below.refl _ _).drew⟩
set_option maxRecDepth 100000 in
set_option maxHeartbeats 2000000 in
theorem dirty_ino1 (g : Nat) (cs ds : Array Value) (m k : Img) (hi : IsImg cs m) (hj : IsImg ds k) (w : World) (hg : w.heap[g]? = some (.cells (cs ++ ds) 141)) :
    Calls Tryz.prog 92 #[.pointer (some ⟨g, 0, none⟩), .int .i64 1] w fun e w' => e = .returned (.bool (Img.dirty m k 1)) ∧ Below w.heap.size w w' := by
  have hgl : g < w.heap.size := (Array.getElem?_eq_some_iff.1 hg).1
  have E : Img.dirty m k 1 = !((List.range 4).all fun j => inoB (m.inode (4 + j)) (k.inode (4 + j))) := (Img.dirty_ino (now := m) (disk := k) (k := 1) (by omega)).trans rfl
  rw [E]
  clear E
  have C := hide (fun (q : Nat) => eqSl_any g 20 114 4 4 (fun j => m.inode (4 + j)) (fun j => k.inode (4 + j)) (w.drewN q)
    (fun j hj4 => by have := (two_has hi hj hg q).1.inoAt (n := 4 + j) (by omega); rw [show 0 + (4 + j) * 5 = 20 + j * 5 by omega] at this; exact this)
    (fun j hj4 => by have := (two_has hi hj hg q).2.inoAt (n := 4 + j) (by omega); rw [show 94 + (4 + j) * 5 = 114 + j * 5 by omega] at this; exact this))
  generalize ((List.range 4).all fun j => inoB (m.inode (4 + j)) (k.inode (4 + j))) = v at C
  have kk := kind_ino (k := 1) (by omega)
  go_enter Tryz.func92, Tryz.ntmps92
  go_wp2_with fail
  refine (block_any _ _).mono ?_
  rw [show kindS 1 = ⟨#[105, 110, 111, 100, 101, 115]⟩ from kk.1, show kindN 1 = 4 from kk.2]
  rintro e w1 ⟨rfl, e1⟩
  rw [e1]
  clear e1 w1 kk
  go_wp2_with fail
  go_quiet ((go_at_call 126; exact quiet_up (unhide C _)))
  go_wp2_with fail
  go_ret
  exact ⟨rfl, by first | exact belowN (Below.refl _ _) | exact (Below.refl _ _).drew⟩
theorem run_exec_neql {P : Program} {o : Oper} {ρ : Operand → Value} (ty tz : TypeId) (x y : Operand) (ho : o.op = .binOp .neq ty x y tz) (cs ds : Array Value) (hx : ρ x = .agg cs) (hy : ρ y = .agg ds) (v : Bool)
    (hm : P.eqGuardType P.depth ty = false) (hq : ∀ w, (binOp .neq ty (.agg cs) (.agg ds)).run P w = .ok (.bool v) w) (w : World) : (execOp ρ o).run P w = .ok (.value (.bool v)) w := by
  unfold execOp
  rw [ho]
  go_simp
theorem dir_under : Tryz.prog.underlying 72 = some (.array 4 71) := by kernel_rfl
section
variable {cs ds : Array Value} {d : Nat}
theorem cut_fst (z1 : cs.size = 94) (hd : d < 3) : (cs ++ ds).extract (40 + d * 12) (40 + d * 12 + 12) = (cs.extract 40 (40 + 36)).extract (d * 12) (d * 12 + 12) := by
  refine Array.ext_getElem? fun i => ?_
  rw [Array.getElem?_extract, Array.getElem?_extract, Array.getElem?_extract, Array.getElem?_append]
  by_cases hi : i < 12
  · rw [if_pos (by simp; omega), if_pos (by omega), if_pos (by simp; omega), if_pos (by omega)]; congr 1; omega
  · rw [if_neg (by omega), if_neg (by omega)]
theorem cut_snd (z1 : cs.size = 94) (z2 : ds.size = 94) (hd : d < 3) : (cs ++ ds).extract (134 + d * 12) (134 + d * 12 + 12) = (ds.extract 40 (40 + 36)).extract (d * 12) (d * 12 + 12) := by
  refine Array.ext_getElem? fun i => ?_
  rw [Array.getElem?_extract, Array.getElem?_extract, Array.getElem?_extract, Array.getElem?_append]
  by_cases hi : i < 12
  · rw [if_pos (by simp; omega), if_neg (by omega), if_pos (by simp; omega), if_pos (by omega)]; congr 1; omega
  · rw [if_neg (by omega), if_neg (by omega)]
end
set_option maxRecDepth 100000 in
set_option maxHeartbeats 2000000 in
theorem dirty_dirs (g : Nat) (cs ds : Array Value) (m k : Img) (hi : IsImg cs m) (hj : IsImg ds k) (d : Nat) (hd : d < 3) (b : Int) (hn : kindS b = ⟨#[100, 105, 114]⟩ ∧ kindN b = (d : Nat)) (w : World) (hg : w.heap[g]? = some (.cells (cs ++ ds) 141)) :
    Calls Tryz.prog 92 #[.pointer (some ⟨g, 0, none⟩), .int .i64 b] w fun e w' => e = .returned (.bool (!Img.sameDir m k d)) ∧ Below w.heap.size w w' := by
  have z1 := hi.size
  have z2 := hj.size
  have q := neqlDir hi hj hd
  have hdz : (d : Int) < 3 := by omega
  go_enter Tryz.func92, Tryz.ntmps92
  go_wp2_with fail
  refine (block_any _ _).mono ?_
  rw [hn.1, hn.2]
  rintro e w1 ⟨rfl, e1⟩
  rw [e1]
  clear e1 w1
  go_wp2_with fail
  refine wp_region_held_drew (S := fun W => W.heap[g]? = some (.cells (cs ++ ds) 141)) (by kernel_rfl) hg (fun hS => ?_)
  refine wpAnyH_take (i := 0) (oi := { dst := some 36, op := Op.move (Operand.tmp 0), type := 111, pos := "cache.go:54", after := #[], guard := none }) (v := .pointer (some ⟨g, 0, none⟩)) rfl (by kernel_rfl) (by kernel_rfl) (by kernel_rfl) (fun _ _ _ h => h) (Or.inl ⟨by kernel_rfl, fun W h => (by first | kernel_rfl | go_simp)⟩) hS ?_
  refine wpAnyH_take (i := 1) (oi := { dst := some 37, op := Op.move (Operand.tmp 6), type := 3, pos := "cache.go:54", after := #[], guard := none }) (v := .int .i64 (d : Int)) rfl (by kernel_rfl) (by kernel_rfl) (by kernel_rfl) (fun _ _ _ h => h) (Or.inl ⟨by kernel_rfl, fun W h => (by first | kernel_rfl | go_simp)⟩) hS ?_
  refine wpAnyH_take (i := 2) (oi := { dst := some 38, op := Op.nilCheck (Operand.tmp 36), type := 0, pos := "cache.go:54", after := #[{ on := 0, ground := Ground.data }], guard := none }) (v := .pointer (some ⟨g, 0, none⟩)) rfl (by kernel_rfl) (by kernel_rfl) (by kernel_rfl) (fun _ _ _ h => h) (Or.inl ⟨by kernel_rfl, fun W h => (by first | kernel_rfl | go_simp)⟩) hS ?_
  refine wpAnyH_take (i := 3) (oi := { dst := some 39, op := Op.fieldAddr 141 (Operand.tmp 38) 0, type := 0, pos := "cache.go:54", after := #[{ on := 2, ground := Ground.data }], guard := none }) (v := .pointer (some ⟨g, 0, none⟩)) rfl (by kernel_rfl) (by kernel_rfl) (by kernel_rfl) (fun _ _ _ h => h) (Or.inl ⟨by kernel_rfl, fun W h => (by first | kernel_rfl | go_simp)⟩) hS ?_
  refine wpAnyH_take (i := 4) (oi := { dst := some 40, op := Op.fieldAddr 78 (Operand.tmp 39) 1, type := 0, pos := "cache.go:54", after := #[{ on := 3, ground := Ground.data }], guard := none }) (v := .pointer (some ⟨g, 40, none⟩)) rfl (by kernel_rfl) (by kernel_rfl) (by kernel_rfl) (fun _ _ _ h => h) (Or.inl ⟨by kernel_rfl, fun W h => (by first | kernel_rfl | go_simp)⟩) hS ?_
  refine wpAnyH_take (i := 5) (oi := { dst := some 41, op := Op.indexAddr 73 (Operand.tmp 40) (Operand.tmp 37), type := 0, pos := "cache.go:54", after := #[{ on := 4, ground := Ground.data }, { on := 1, ground := Ground.data }], guard := none }) (v := .pointer (some ⟨g, 40 + d * 12, none⟩)) rfl (by kernel_rfl) (by kernel_rfl) (by kernel_rfl) (fun _ _ _ h => h) (Or.inl ⟨by kernel_rfl, fun W h => (by go_simp)⟩) hS ?_
  refine wpAnyH_take (i := 6) (oi := { dst := some 42, op := Op.load 72 (Operand.tmp 41), type := 72, pos := "cache.go:54", after := #[{ on := 5, ground := Ground.data }], guard := none }) (v := .agg ((cs.extract 40 (40 + 36)).extract (d * 12) (d * 12 + 12))) rfl (by kernel_rfl) (by kernel_rfl) (by kernel_rfl) (fun _ _ _ h => h) (Or.inl ⟨by kernel_rfl, fun W h => run_exec_load_part 72 (.tmp 41) (by kernel_rfl) g (40 + d * 12) 12 (by kernel_rfl) W 141 (cs ++ ds) _ _ h dir_under rfl dir_info (by simp; omega) (cut_fst z1 hd)⟩) hS ?_
  refine wpAnyH_take (i := 7) (oi := { dst := some 43, op := Op.move (Operand.tmp 0), type := 111, pos := "cache.go:54", after := #[], guard := none }) (v := .pointer (some ⟨g, 0, none⟩)) rfl (by kernel_rfl) (by kernel_rfl) (by kernel_rfl) (fun _ _ _ h => h) (Or.inl ⟨by kernel_rfl, fun W h => (by first | kernel_rfl | go_simp)⟩) hS ?_
  refine wpAnyH_take (i := 8) (oi := { dst := some 44, op := Op.move (Operand.tmp 6), type := 3, pos := "cache.go:54", after := #[], guard := none }) (v := .int .i64 (d : Int)) rfl (by kernel_rfl) (by kernel_rfl) (by kernel_rfl) (fun _ _ _ h => h) (Or.inl ⟨by kernel_rfl, fun W h => (by first | kernel_rfl | go_simp)⟩) hS ?_
  refine wpAnyH_take (i := 9) (oi := { dst := some 45, op := Op.nilCheck (Operand.tmp 43), type := 0, pos := "cache.go:54", after := #[{ on := 7, ground := Ground.data }], guard := none }) (v := .pointer (some ⟨g, 0, none⟩)) rfl (by kernel_rfl) (by kernel_rfl) (by kernel_rfl) (fun _ _ _ h => h) (Or.inl ⟨by kernel_rfl, fun W h => (by first | kernel_rfl | go_simp)⟩) hS ?_
  refine wpAnyH_take (i := 10) (oi := { dst := some 46, op := Op.fieldAddr 141 (Operand.tmp 45) 1, type := 0, pos := "cache.go:54", after := #[{ on := 9, ground := Ground.data }], guard := none }) (v := .pointer (some ⟨g, 94, none⟩)) rfl (by kernel_rfl) (by kernel_rfl) (by kernel_rfl) (fun _ _ _ h => h) (Or.inl ⟨by kernel_rfl, fun W h => (by first | kernel_rfl | go_simp)⟩) hS ?_
  refine wpAnyH_take (i := 11) (oi := { dst := some 47, op := Op.fieldAddr 78 (Operand.tmp 46) 1, type := 0, pos := "cache.go:54", after := #[{ on := 10, ground := Ground.data }], guard := none }) (v := .pointer (some ⟨g, 134, none⟩)) rfl (by kernel_rfl) (by kernel_rfl) (by kernel_rfl) (fun _ _ _ h => h) (Or.inl ⟨by kernel_rfl, fun W h => (by first | kernel_rfl | go_simp)⟩) hS ?_
  refine wpAnyH_take (i := 12) (oi := { dst := some 48, op := Op.indexAddr 73 (Operand.tmp 47) (Operand.tmp 44), type := 0, pos := "cache.go:54", after := #[{ on := 11, ground := Ground.data }, { on := 8, ground := Ground.data }], guard := none }) (v := .pointer (some ⟨g, 134 + d * 12, none⟩)) rfl (by kernel_rfl) (by kernel_rfl) (by kernel_rfl) (fun _ _ _ h => h) (Or.inl ⟨by kernel_rfl, fun W h => (by go_simp)⟩) hS ?_
  refine wpAnyH_take (i := 13) (oi := { dst := some 49, op := Op.load 72 (Operand.tmp 48), type := 72, pos := "cache.go:54", after := #[{ on := 12, ground := Ground.data }], guard := none }) (v := .agg ((ds.extract 40 (40 + 36)).extract (d * 12) (d * 12 + 12))) rfl (by kernel_rfl) (by kernel_rfl) (by kernel_rfl) (fun _ _ _ h => h) (Or.inl ⟨by kernel_rfl, fun W h => run_exec_load_part 72 (.tmp 48) (by kernel_rfl) g (134 + d * 12) 12 (by kernel_rfl) W 141 (cs ++ ds) _ _ h dir_under rfl dir_info (by simp; omega) (cut_snd z1 z2 hd)⟩) hS ?_
  refine wpAnyH_take (i := 14) (oi := { dst := some 50, op := Op.binOp BinOp.neq 72 (Operand.tmp 42) (Operand.tmp 49) 72, type := 4, pos := "cache.go:54", after := #[{ on := 6, ground := Ground.data }, { on := 13, ground := Ground.data }], guard := none }) (v := .bool (!Img.sameDir m k d)) rfl (by kernel_rfl) (by kernel_rfl) (by kernel_rfl) (fun _ _ _ h => h) (Or.inl ⟨by kernel_rfl, fun W h => run_exec_neql 72 72 (.tmp 42) (.tmp 49) (by kernel_rfl) _ _ (by kernel_rfl) (by kernel_rfl) _ Tryz.eqGuardType72 q W⟩) hS ?_
  refine wpAnyH_take (i := 15) (oi := { dst := some 4, op := Op.assign (Operand.tmp 50), type := 4, pos := "cache.go:54", after := #[{ on := 14, ground := Ground.data }, { on := 0, ground := Ground.phase }, { on := 1, ground := Ground.phase }, { on := 2, ground := Ground.phase }, { on := 3, ground := Ground.phase }, { on := 4, ground := Ground.phase }, { on := 5, ground := Ground.phase }, { on := 6, ground := Ground.phase }, { on := 7, ground := Ground.phase }, { on := 8, ground := Ground.phase }, { on := 9, ground := Ground.phase }, { on := 10, ground := Ground.phase }, { on := 11, ground := Ground.phase }, { on := 12, ground := Ground.phase }, { on := 13, ground := Ground.phase }, { on := 14, ground := Ground.phase }], guard := none }) (v := .bool (!Img.sameDir m k d)) rfl (by kernel_rfl) (by kernel_rfl) (by kernel_rfl) (fun _ _ _ h => h) (Or.inl ⟨by kernel_rfl, fun W h => (by kernel_rfl)⟩) hS ?_
  refine wpAnyH_done (by kernel_rfl) ?_ _
  simp only [Act.put, List.setIfInBounds_toArray, List.set_cons_zero, List.set_cons_succ]
  go_wp2_with fail
  go_ret
  exact ⟨rfl, (Below.refl _ _).drew⟩
set_option maxRecDepth 100000 in
set_option maxHeartbeats 2000000 in
theorem dirty_datas (g : Nat) (cs ds : Array Value) (m k : Img) (hi : IsImg cs m) (hj : IsImg ds k) (x : Nat) (hx : x < 9) (b : Int) (hn : kindS b = ⟨#[100, 97, 116, 97]⟩ ∧ kindN b = (x : Nat)) (w : World) (hg : w.heap[g]? = some (.cells (cs ++ ds) 141)) :
    Calls Tryz.prog 92 #[.pointer (some ⟨g, 0, none⟩), .int .i64 b] w fun e w' => e = .returned (.bool (!Img.sameDat m k x)) ∧ Below w.heap.size w w' := by
  have h0 := two_has hi hj hg 0
  have hgl := h0.1.lt
  have a1 := h0.1.of x hx
  have a2 := h0.1.text x hx
  have b1 := h0.2.of x hx
  have b2 := h0.2.text x hx
  have f0 : w.drewN 0 = w := rfl
  rw [f0] at a1 a2 b1 b2 hgl
  rw [Nat.zero_add] at a1 a2
  rw [show 94 + 76 = 170 from rfl] at b1 b2
  clear h0 f0
  have q := neqlDat (m.of x) (k.of x) (m.text x) (k.text x)
  rw [show (m.of x == k.of x && (m.text x).toList == (k.text x).toList) = Img.sameDat m k x from rfl] at q
  have hxz : (x : Int) < 9 := by omega
  go_enter Tryz.func92, Tryz.ntmps92
  go_wp2_with fail
  refine (block_any _ _).mono ?_
  rw [hn.1, hn.2]
  rintro e w1 ⟨rfl, e1⟩
  rw [e1]
  clear e1 w1
  go_wp2_with fail
  go_quiet (fail)
  go_wp2_with fail
  go_ret
  exact ⟨rfl, by first | exact belowN (Below.refl _ _) | exact (Below.refl _ _).drew⟩
set_option maxRecDepth 100000 in
set_option maxHeartbeats 2000000 in
theorem dirty_none (g : Nat) (b : Int) (hb : Img.inB b = false) (m k : Img) (w : World) :
    Calls Tryz.prog 92 #[.pointer (some ⟨g, 0, none⟩), .int .i64 b] w fun e w' => e = .returned (.bool (Img.dirty m k b)) ∧ Below w.heap.size w w' := by
  rw [Img.dirty_out hb]
  go_enter Tryz.func92, Tryz.ntmps92
  go_wp2_with fail
  refine (block_any _ _).mono ?_
  rw [(kind_out hb).1, (kind_out hb).2]
  rintro e w1 ⟨rfl, e1⟩
  rw [e1]
  clear e1 w1
  go_wp2_with fail
  go_ret
  exact ⟨rfl, Below.refl _ _⟩
theorem cDirty_any (g : Nat) (cs ds : Array Value) (m k : Img) (hi : IsImg cs m) (hj : IsImg ds k) (b : Int) (w : World) (hg : w.heap[g]? = some (.cells (cs ++ ds) 141)) :
    Calls Tryz.prog 92 #[.pointer (some ⟨g, 0, none⟩), .int .i64 b] w fun e w' => e = .returned (.bool (Img.dirty m k b)) ∧ Below w.heap.size w w' := by
  rcases Img.blocks b with h | ⟨q, hq, rfl⟩ | ⟨d, hd, rfl⟩ | ⟨x, hx, rfl⟩
  · exact dirty_none g b h m k w
  · match q, hq with
    | 0, _ => exact dirty_ino0 g cs ds m k hi hj w hg
    | 1, _ => exact dirty_ino1 g cs ds m k hi hj w hg
  · rw [Img.dirty_dir hd]; exact dirty_dirs g cs ds m k hi hj d hd _ (kind_dir hd) w hg
  · rw [Img.dirty_data hx]; exact dirty_datas g cs ds m k hi hj x hx _ (kind_data hx) w hg
end Go.Proofs.YtfpfpnhpbnnmfadGreatDoor
namespace Go.Proofs.YtfpfpnhpbnnmfadGreatDoor
open Go.RowKit
open Idl (Stp chk stpA strs one_new one_str)
namespace Sft
end Sft
/-- files made behind w -/
structure Fo (w : World) (bf bc : Nat) (m k : Img) (last : Int) (W : World) : Prop where
  it : ∃ cs ds, Fl W bf bc cs ds m k last
  bel : Below w.heap.size w W
  f0 : w.heap.size ≤ bf
  c0 : w.heap.size ≤ bc
section
variable {w W W' : World} {bf bc : Nat} {m k : Img} {last : Int}
theorem Fo.call (h : Fo w bf bc m k last W) (hb : Below W.heap.size W W') : Fo w bf bc m k last W' := by
  obtain ⟨cs, ds, f⟩ := h.it
  exact ⟨⟨cs, ds, f.below hb⟩, h.bel.trans (hb.mono h.bel.size), h.f0, h.c0⟩
theorem Fo.new (w : World) {W : World} (hb : Below w.heap.size w W) : Calls Tryz.prog 24 #[] W fun e w' => ∃ bf bc, e = .returned (.pointer (some ⟨bf, 0, none⟩)) ∧ W.heap.size ≤ bf ∧ W.heap.size ≤ bc ∧ Fo w bf bc blankI blankI 0 w' ∧ Below W.heap.size W w' := by
  refine (sNew_any W).mono ?_
  rintro e w' ⟨⟨bf, bc, rfl, h1, h2, f⟩, b⟩
  exact ⟨bf, bc, rfl, h1, h2, ⟨⟨_, _, f⟩, hb.trans (b.mono hb.size), Nat.le_trans hb.size h1, Nat.le_trans hb.size h2⟩, b⟩
theorem Fo.step (h : Fo w bf bc m k last W) (hG : Img.Good m last) (hla : last < 4611686018427387904) (x : Stp) (hn : x.name.size ≤ maxLen) (ht : x.to.size ≤ maxLen) (hx : x.text.size ≤ maxLen) :
    Calls Tryz.prog 81 #[.pointer (some ⟨bf, 0, none⟩), .agg (stpA x)] W fun e w' => e = .returned (.int .i64 (Img.scode m k x)) ∧ Fo w bf bc (Img.sstep m k last x) k (Img.slast m k last x) w' ∧ Idl.Chg (fun i => i = bf ∨ i = bc) W w' := by
  obtain ⟨cs, ds, f⟩ := h.it
  refine (sDo_any f hG hla x hn ht hx).mono ?_
  rintro e w' ⟨rfl, d⟩
  obtain ⟨cs', f'⟩ := d.fl f.disk
  obtain ⟨_, hm, _⟩ := d
  have hb := hm.chg.below h.bel.size (fun i hi => by rcases hi with z | z; rw [z]; exact h.f0; rw [z]; exact h.c0)
  exact ⟨rfl, ⟨⟨cs', ds, f'⟩, h.bel.trans hb, h.f0, h.c0⟩, hm.chg⟩
theorem Fo.mut (h : Fo w bf bc m k last W) {cs ds es : Array Value} {k' : Img} (f : Fl W bf bc cs ds m k last) (hm : Mut W W' bc (cs ++ es) 141) (he : IsImg es k') : Fo w bf bc m k' last W' :=
  ⟨⟨cs, es, by rw [hm.old bf f.flt f.ne]; exact f.root, hm.row, f.now, he, f.ne⟩, h.bel.trans (hm.below _ h.c0 h.bel.size), h.f0, h.c0⟩
theorem Fo.write (h : Fo w bf bc m k last W) (b : Int) :
    Calls Tryz.prog 108 #[.pointer (some ⟨bc, 0, none⟩), .int .i64 b] W fun e w' => e = .returned (.bool (Img.inB b)) ∧ Fo w bf bc m (Img.write m k b) last w' ∧ ∃ c, Mut W w' bc c 141 := by
  obtain ⟨cs, ds, f⟩ := h.it
  refine (cWrite_any bc cs ds m k f.now f.disk b W f.row).mono ?_
  rintro e w' ⟨es, rfl, he, hm⟩
  exact ⟨rfl, h.mut f hm he, _, hm⟩
theorem Fo.sync (h : Fo w bf bc m k last W) :
    Calls Tryz.prog 79 #[.pointer (some ⟨bc, 0, none⟩)] W fun e w' => e = .returned (.int .i64 ((Img.syn m 8 k).1 : Nat)) ∧ Fo w bf bc m (Img.syn m 8 k).2 last w' ∧ ∃ c, Mut W w' bc c 141 := by
  obtain ⟨cs, ds, f⟩ := h.it
  refine (cSync_any bc cs ds m k f.now f.disk W f.row).mono ?_
  rintro e w' ⟨es, rfl, he, hm⟩
  exact ⟨rfl, h.mut f hm he, _, hm⟩
theorem Fo.read (h : Fo w bf bc m k last W) (hm : m.check = 0) (d : Int) (s : ByteArray) (hs : s.size ≤ maxLen) (p : Int) :
    Calls Tryz.prog 82 #[.pointer (some ⟨bf, 0, none⟩), .int .i64 d, .string s, .int .i64 p] W fun e w' => e = .returned (.tuple #[.string (Img.sreadT m d s p), .bool (Img.sreadB m d s p), .int .i64 (Img.sreadC m d s p)]) ∧ Fo w bf bc m k last w' ∧ Below W.heap.size W w' := by
  obtain ⟨cs, ds, f⟩ := h.it
  refine (sRead_any f hm d s hs p).mono ?_
  rintro e w' ⟨rfl, b⟩
  exact ⟨rfl, h.call b, b⟩
theorem Fo.same (h : Fo w bf bc m k last W) (d : Int) (s : ByteArray) (d2 : Int) (u : ByteArray) :
    Calls Tryz.prog 57 #[.pointer (some ⟨bf, 0, none⟩), .int .i64 d, .string s, .int .i64 d2, .string u] W fun e w' => e = .returned (.bool (Img.ssame m d s d2 u)) ∧ w' = W := by
  obtain ⟨cs, ds, f⟩ := h.it
  exact sSame_any f d s d2 u
theorem Fo.sure (h : Fo w bf bc m k last W) (d : Int) (s : ByteArray) :
    Calls Tryz.prog 58 #[.pointer (some ⟨bf, 0, none⟩), .int .i64 d, .string s] W fun e w' => e = .returned (.bool (Img.ssure m k d s)) ∧ Fo w bf bc m k last w' ∧ Below W.heap.size W w' := by
  obtain ⟨cs, ds, f⟩ := h.it
  refine (sSure_any f d s).mono ?_
  rintro e w' ⟨rfl, b⟩
  exact ⟨rfl, h.call b, b⟩
theorem Fo.list (h : Fo w bf bc m k last W) (hm : m.check = 0) (d : Int) :
    Calls Tryz.prog 55 #[.pointer (some ⟨bf, 0, none⟩), .int .i64 d] W fun e w' => ∃ v, e = .returned v ∧ w'.ownsRow W.heap.size 9 1 v (Img.snames m d).length (strs (Img.snames m d)) ∧ Fo w bf bc m k last w' ∧ Below W.heap.size W w' := by
  obtain ⟨cs, ds, f⟩ := h.it
  refine (sList_any f hm d).mono ?_
  rintro e w' ⟨v, rfl, ho, b⟩
  exact ⟨v, rfl, ho, h.call b, b⟩
theorem Fo.cells (h : Fo w bf bc m k last W) : W.cell? ⟨bf, 0, none⟩ = some (.pointer (some ⟨bc, 0, none⟩)) ∧ bf < W.heap.size ∧ bc < W.heap.size ∧ HasAt W bc 0 m ∧ HasAt W bc 94 k := by
  obtain ⟨cs, ds, f⟩ := h.it
  exact ⟨f.ptr, f.flt, f.clt, f.hasNow, f.hasDisk⟩
end
namespace Sft
theorem blank_ex : blankI.exact = true := by kernel_rfl
theorem blank_dead : Img.anyB blankI.live 8 = false := by kernel_rfl
theorem good0 : Img.Good blankI 0 := ⟨Img.ex_iff.1 blank_ex, Int.le_refl _, fun n hn hl => by rw [Img.anyB_false.1 blank_dead n hn] at hl; cases hl⟩
end Sft
end Go.Proofs.YtfpfpnhpbnnmfadGreatDoor
namespace Go.Proofs.YtfpfpnhpbnnmfadGreatDoor
namespace Img
open Idl (Stp chk)
variable {now disk : Img} {last : Int}
structure Lies (now disk : Img) : Prop where
  slot : Slotty now disk
  free : Empties disk
theorem Lies.write (hn : now.check = 0) (h : Lies now disk) (b : Int) : Lies now (Img.write now disk b) := by
  rcases blocks b with z | ⟨k, hk, rfl⟩ | ⟨d, hd, rfl⟩ | ⟨x, hx, rfl⟩
  · rw [write_out z]; exact h
  · rw [write_ino hk]
    have hr := wInos_rest now disk (k * 4) 4
    have he : ∀ d s, (wInos now disk (k * 4) 4).entry d s = disk.entry d s := fun d s => by unfold entry; rw [hr.1, hr.2.1, hr.2.2.1]
    exact ⟨fun d s hd hs h1 h2 => by rw [he]; exact h.slot d s hd hs h1 (by rw [← named_of_entry (he d s)]; exact h2), fun d s hd hs h1 => by rw [he]; exact h.free d s hd hs (by rw [← named_of_entry (he d s)]; exact h1)⟩
  · rw [write_dir hd]
    have hM := (Mix.refl now disk).wDir hd 4 (by omega)
    exact ⟨hM.slotty h.slot, hM.empties h.free (fun d s hd hs hu => empty_unnamed hn hd hs hu)⟩
  · rw [write_data hx]
    exact ⟨h.slot, h.free⟩
theorem Lies.down (hn : now.check = 0) : ∀ b {D : Img}, Lies now D → Lies now (Img.down now D b)
  | 0, _, h => h
  | b + 1, _, h => by unfold Img.down; exact Lies.down hn b (h.write hn _)
theorem Lies.clean (hx : Ex now) {D : Img} (h : Lies now D) : Agree now (Img.syn now 8 D).2 := by
  have hn := hx.ok
  cases e : sameImg now D
  case true => rw [syn_stop e]; exact same_iff.1 e
  rw [syn_step e]
  have h1 := h.down hn 14
  have r1 := round_of hn h.slot
  generalize Img.down now D 14 = D1 at h1 r1
  show Agree now (Img.syn now 7 D1).2
  cases e1 : sameImg now D1
  case true => rw [syn_stop e1]; exact same_iff.1 e1
  rw [syn_step e1]
  have h2 := h1.down hn 14
  have r2 := round_of hn h1.slot
  have f2 := full_of hn r1
  generalize Img.down now D1 14 = D2 at h2 r2 f2
  show Agree now (Img.syn now 6 D2).2
  cases e2 : sameImg now D2
  case true => rw [syn_stop e2]; exact same_iff.1 e2
  rw [syn_step e2]
  have a3 := done_of hx r2 f2 h2.free
  generalize Img.down now D2 14 = D3 at a3
  show Agree now (Img.syn now 5 D3).2
  rw [syn_stop (same_iff.2 a3)]
  exact a3
theorem added_other (d : Int) (s : ByteArray) (n : Nat) {k : Nat} (hS : SlotAt now disk d k) {e t : Nat} (h : ¬ (e = d.toNat ∧ t = k)) : (added now disk d s n).entry e t = now.entry e t := by
  unfold added
  rw [hS.eq, Int.toNat_natCast]
  exact putEnt_other now _ h
theorem dropped_other (d : Int) (s : ByteArray) (e t : Nat) : (dropped now d s).entry e t = now.entry e t ∨ (dropped now d s).named e t = false := by
  have h1 : (dropped now d s).entry e t = (now.clear d.toNat (now.findAt d s.toList).toNat).entry e t := by
    unfold dropped
    split
    · rfl
    · rfl
  by_cases c : e = d.toNat ∧ t = (now.findAt d s.toList).toNat
  · right
    rw [named_of_entry h1, c.1, c.2]; exact clear_named_at
  · left
    rw [h1]; unfold entry; rw [clear_name c, clear_ino c, clear_est c]
theorem sstep_code {x : Stp} (h : scode now disk x ≠ 0) : sstep now disk last x = now := if_pos h
theorem slast_le (x : Stp) : slast now disk last x ≤ last + 1 := by
  unfold slast; split <;> omega
/-! is there room? -/
end Img
end Go.Proofs.YtfpfpnhpbnnmfadGreatDoor
