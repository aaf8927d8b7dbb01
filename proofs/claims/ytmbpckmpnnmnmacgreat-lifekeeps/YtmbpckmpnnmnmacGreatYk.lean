/-
  The walks of slices.Equal over inodes, and of package cache: Dirty.
-/
import Derived.Test.YtmbpckmpnnmnmacGreatYe
import Derived.Test.YtmbpckmpnnmnmacGreatYj
namespace Go.Proofs.YtmbpckmpnnmnmacGreat
open Go.RowKit
/-- an inode's cells -/
structure InoAt (w : World) (g o : Nat) (i : Ino) : Prop where
  live : w.cell? ⟨g, o, none⟩ = some (.bool i.live)
  stamp : w.cell? ⟨g, o + 1, none⟩ = some (.int .i64 i.stamp)
  links : w.cell? ⟨g, o + 2, none⟩ = some (.int .i64 i.links)
  p0 : w.cell? ⟨g, o + 3 + 0, none⟩ = some (.int .i64 i.p0)
  p1 : w.cell? ⟨g, o + 3 + 1, none⟩ = some (.int .i64 i.p1)
set_option maxHeartbeats 1000000 in
theorem eqSl_any (g o1 o2 c1 c2 : Nat) (I J : Nat → Ino) (w : World) (h1 : ∀ j, j < 4 → InoAt w g (o1 + j * 5) (I j)) (h2 : ∀ j, j < 4 → InoAt w g (o2 + j * 5) (J j)) :
    Calls Tryz.prog 58 #[.slice (some ⟨g, o1, none⟩) 4 c1, .slice (some ⟨g, o2, none⟩) 4 c2] w fun e w' => e = .returned (.bool ((List.range 4).all fun j => inoB (I j) (J j))) ∧ ∃ q, w' = w.drewN q := by
  have H1 := hide h1
  have H2 := hide h2
  clear h1 h2
  go_enter Tryz.func58, Tryz.ntmps58
  go_wp2_with fail
  go_loopw [13] (fun i wr => ∃ j q : Nat, j ≤ 4 ∧ i = .int .i64 j ∧ Hid (∀ t, t < j → inoB (I t) (J t) = true) ∧ wr = w.drewN q) (fun i _ => 4 - (intOf i).toNat)
  case atStart => exact ⟨0, 0, by omega, rfl, hide fun t ht => by omega, rfl⟩
  case round =>
    obtain ⟨j, q, hj, rfl, HA, rfl⟩ := hrel
    by_cases hlt : j < 4
    · have t4 : decide ((j : Int) < 4) = true := by simp; omega
      have jz : (j : Int) < 4 := by omega
      obtain ⟨a0, a1, a2, a3, a4⟩ := unhide H1 j hlt
      obtain ⟨b0, b1, b2, b3, b4⟩ := unhide H2 j hlt
      have qq := neqlInode (I j) (J j)
      unfold inoV at qq
      cases hq : inoB (I j) (J j)
      · have HE := hide (show ((List.range 4).all fun j => inoB (I j) (J j)) = false from by
          cases e : (List.range 4).all fun j => inoB (I j) (J j)
          · rfl
          · rw [List.all_eq_true] at e; have := e j (List.mem_range.2 hlt); rw [hq] at this; cases this)
        rw [hq] at qq
        go_wp2_with fail
        go_quiet (fail)
        go_wp2_with fail
        go_ret
        exact ⟨by rw [unhide HE]; rfl, by first | exact ⟨_, rfl⟩ | exact ⟨_, drewNs⟩⟩
      · rw [hq] at qq
        go_wp2_with fail
        go_quiet (fail)
        go_wp2_with fail
        go_roundw
        case rel => exact ⟨j + 1, _, by omega, by go_num, hide fun t ht => by
          by_cases e : t = j
          · subst e; exact hq
          · exact unhide HA t (by omega), by first | rfl | exact drewNs⟩
        case measure => simp [intOf]; omega
    · have t4 : decide ((j : Int) < 4) = false := by simp; omega
      have ej : j = 4 := by omega
      subst ej
      have HE := hide (show ((List.range 4).all fun j => inoB (I j) (J j)) = true from by rw [List.all_eq_true]; exact fun t ht => unhide HA t (List.mem_range.1 ht))
      go_wp2_with fail
      go_ret
      exact ⟨by rw [unhide HE]; rfl, _, rfl⟩
theorem HasAt.inoAt {w : World} {g o : Nat} {m : Img} (h : HasAt w g o m) {n : Nat} (hn : n < 8) : InoAt w g (o + n * 5) (m.inode n) := ⟨h.live n hn, h.stamp n hn, h.links n hn, h.part n 0 hn (by omega), h.part n 1 hn (by omega)⟩
theorem quiet_up {P : Program} {f : FuncId} {args : Array Value} {w : World} {n : Nat} {v : Value}
    (h : Calls P f args (w.drewN n) fun e w' => e = .returned v ∧ ∃ q, w' = (w.drewN n).drewN q) : Calls P f args (w.drewN n) fun e w'' => e = .returned v ∧ ∃ m, w'' = w.drewN m :=
  h.mono fun _ _ ⟨he, q, hm⟩ => ⟨he, n + q, by rw [hm, drewNN]⟩
set_option maxRecDepth 100000 in
set_option maxHeartbeats 2000000 in
theorem dirty_ino0 (g : Nat) (cs ds : Array Value) (m k : Img) (hi : IsImg cs m) (hj : IsImg ds k) (w : World) (hg : w.heap[g]? = some (.cells (cs ++ ds) 57)) :
    Calls Tryz.prog 31 #[.pointer (some ⟨g, 0, none⟩), .int .i64 0] w fun e w' => e = .returned (.bool (Img.dirty m k 0)) ∧ Below w.heap.size w w' := by
  have hgl : g < w.heap.size := (Array.getElem?_eq_some_iff.1 hg).1
  have E : Img.dirty m k 0 = !((List.range 4).all fun j => inoB (m.inode (0 + j)) (k.inode (0 + j))) := (Img.dirty_ino (now := m) (disk := k) (k := 0) (by omega)).trans rfl
  rw [E]
  clear E
  have C := hide (fun (q : Nat) => eqSl_any g 0 94 8 8 (fun j => m.inode (0 + j)) (fun j => k.inode (0 + j)) (w.drewN q)
    (fun j hj4 => by have := (two_has hi hj hg q).1.inoAt (n := 0 + j) (by omega); rw [show 0 + (0 + j) * 5 = 0 + j * 5 by omega] at this; exact this)
    (fun j hj4 => by have := (two_has hi hj hg q).2.inoAt (n := 0 + j) (by omega); rw [show 94 + (0 + j) * 5 = 94 + j * 5 by omega] at this; exact this))
  generalize ((List.range 4).all fun j => inoB (m.inode (0 + j)) (k.inode (0 + j))) = v at C
  have kk := kind_ino (k := 0) (by omega)
  go_enter Tryz.func31, Tryz.ntmps31
  go_wp2_with fail
  refine (block_any _ _).mono ?_
  rw [show kindS 0 = ⟨#[105, 110, 111, 100, 101, 115]⟩ from kk.1, show kindN 0 = 0 from kk.2]
  rintro e w1 ⟨rfl, e1⟩
  rw [e1]
  clear e1 w1 kk
  go_wp2_with fail
  go_quiet ((go_at_call 58; exact quiet_up (unhide C _)))
  go_wp2_with fail
  go_ret
  exact ⟨rfl, by first | exact belowN (Below.refl _ _) | exact (Below.refl _ _).drew⟩
set_option maxRecDepth 100000 in
set_option maxHeartbeats 2000000 in
theorem dirty_ino1 (g : Nat) (cs ds : Array Value) (m k : Img) (hi : IsImg cs m) (hj : IsImg ds k) (w : World) (hg : w.heap[g]? = some (.cells (cs ++ ds) 57)) :
    Calls Tryz.prog 31 #[.pointer (some ⟨g, 0, none⟩), .int .i64 1] w fun e w' => e = .returned (.bool (Img.dirty m k 1)) ∧ Below w.heap.size w w' := by
  have hgl : g < w.heap.size := (Array.getElem?_eq_some_iff.1 hg).1
  have E : Img.dirty m k 1 = !((List.range 4).all fun j => inoB (m.inode (4 + j)) (k.inode (4 + j))) := (Img.dirty_ino (now := m) (disk := k) (k := 1) (by omega)).trans rfl
  rw [E]
  clear E
  have C := hide (fun (q : Nat) => eqSl_any g 20 114 4 4 (fun j => m.inode (4 + j)) (fun j => k.inode (4 + j)) (w.drewN q)
    (fun j hj4 => by have := (two_has hi hj hg q).1.inoAt (n := 4 + j) (by omega); rw [show 0 + (4 + j) * 5 = 20 + j * 5 by omega] at this; exact this)
    (fun j hj4 => by have := (two_has hi hj hg q).2.inoAt (n := 4 + j) (by omega); rw [show 94 + (4 + j) * 5 = 114 + j * 5 by omega] at this; exact this))
  generalize ((List.range 4).all fun j => inoB (m.inode (4 + j)) (k.inode (4 + j))) = v at C
  have kk := kind_ino (k := 1) (by omega)
  go_enter Tryz.func31, Tryz.ntmps31
  go_wp2_with fail
  refine (block_any _ _).mono ?_
  rw [show kindS 1 = ⟨#[105, 110, 111, 100, 101, 115]⟩ from kk.1, show kindN 1 = 4 from kk.2]
  rintro e w1 ⟨rfl, e1⟩
  rw [e1]
  clear e1 w1 kk
  go_wp2_with fail
  go_quiet ((go_at_call 58; exact quiet_up (unhide C _)))
  go_wp2_with fail
  go_ret
  exact ⟨rfl, by first | exact belowN (Below.refl _ _) | exact (Below.refl _ _).drew⟩
theorem run_exec_neql {P : Program} {o : Oper} {ρ : Operand → Value} (ty tz : TypeId) (x y : Operand) (ho : o.op = .binOp .neq ty x y tz) (cs ds : Array Value) (hx : ρ x = .agg cs) (hy : ρ y = .agg ds) (v : Bool)
    (hm : P.eqGuardType P.depth ty = false) (hq : ∀ w, (binOp .neq ty (.agg cs) (.agg ds)).run P w = .ok (.bool v) w) (w : World) : (execOp ρ o).run P w = .ok (.value (.bool v)) w := by
  unfold execOp
  rw [ho]
  go_simp
theorem dir_under : Tryz.prog.underlying 38 = some (.array 4 37) := by kernel_rfl
section
variable {cs ds : Array Value} {d : Nat}
theorem cut_fst (z1 : cs.size = 94) (hd : d < 3) : (cs ++ ds).extract (40 + d * 12) (40 + d * 12 + 12) = (cs.extract 40 (40 + 36)).extract (d * 12) (d * 12 + 12) := by
  refine Array.ext_getElem? fun i => ?_
  rw [Array.getElem?_extract, Array.getElem?_extract, Array.getElem?_extract, Array.getElem?_append]
  by_cases hi : i < 12
  · rw [if_pos (by simp; omega), if_pos (by omega), if_pos (by simp; omega), if_pos (by omega)]; congr 1; omega
  · rw [if_neg (by omega), if_neg (by omega)]
theorem cut_snd (z1 : cs.size = 94) (z2 : ds.size = 94) (hd : d < 3) : (cs ++ ds).extract (134 + d * 12) (134 + d * 12 + 12) = (ds.extract 40 (40 + 36)).extract (d * 12) (d * 12 + 12) := by
  refine Array.ext_getElem? fun i => ?_
  rw [Array.getElem?_extract, Array.getElem?_extract, Array.getElem?_extract, Array.getElem?_append]
  by_cases hi : i < 12
  · rw [if_pos (by simp; omega), if_neg (by omega), if_pos (by simp; omega), if_pos (by omega)]; congr 1; omega
  · rw [if_neg (by omega), if_neg (by omega)]
end
set_option maxRecDepth 100000 in
set_option maxHeartbeats 2000000 in
theorem dirty_dirs (g : Nat) (cs ds : Array Value) (m k : Img) (hi : IsImg cs m) (hj : IsImg ds k) (d : Nat) (hd : d < 3) (b : Int) (hn : kindS b = ⟨#[100, 105, 114]⟩ ∧ kindN b = (d : Nat)) (w : World) (hg : w.heap[g]? = some (.cells (cs ++ ds) 57)) :
    Calls Tryz.prog 31 #[.pointer (some ⟨g, 0, none⟩), .int .i64 b] w fun e w' => e = .returned (.bool (!Img.sameDir m k d)) ∧ Below w.heap.size w w' := by
  have z1 := hi.size
  have z2 := hj.size
  have q := neqlDir hi hj hd
  have hdz : (d : Int) < 3 := by omega
  go_enter Tryz.func31, Tryz.ntmps31
  go_wp2_with fail
  refine (block_any _ _).mono ?_
  rw [hn.1, hn.2]
  rintro e w1 ⟨rfl, e1⟩
  rw [e1]
  clear e1 w1
  go_wp2_with fail
  refine wp_region_held_drew (S := fun W => W.heap[g]? = some (.cells (cs ++ ds) 57)) (by kernel_rfl) hg (fun hS => ?_)
  refine wpAnyH_take (i := 0) (oi := { dst := some 36, op := Op.move (Operand.tmp 0), type := 51, pos := "cache.go:54", after := #[], guard := none }) (v := .pointer (some ⟨g, 0, none⟩)) rfl (by kernel_rfl) (by kernel_rfl) (by kernel_rfl) (fun _ _ _ h => h) (Or.inl ⟨by kernel_rfl, fun W h => (by first | kernel_rfl | go_simp)⟩) hS ?_
  refine wpAnyH_take (i := 1) (oi := { dst := some 37, op := Op.move (Operand.tmp 6), type := 3, pos := "cache.go:54", after := #[], guard := none }) (v := .int .i64 (d : Int)) rfl (by kernel_rfl) (by kernel_rfl) (by kernel_rfl) (fun _ _ _ h => h) (Or.inl ⟨by kernel_rfl, fun W h => (by first | kernel_rfl | go_simp)⟩) hS ?_
  refine wpAnyH_take (i := 2) (oi := { dst := some 38, op := Op.nilCheck (Operand.tmp 36), type := 0, pos := "cache.go:54", after := #[{ on := 0, ground := Ground.data }], guard := none }) (v := .pointer (some ⟨g, 0, none⟩)) rfl (by kernel_rfl) (by kernel_rfl) (by kernel_rfl) (fun _ _ _ h => h) (Or.inl ⟨by kernel_rfl, fun W h => (by first | kernel_rfl | go_simp)⟩) hS ?_
  refine wpAnyH_take (i := 3) (oi := { dst := some 39, op := Op.fieldAddr 57 (Operand.tmp 38) 0, type := 0, pos := "cache.go:54", after := #[{ on := 2, ground := Ground.data }], guard := none }) (v := .pointer (some ⟨g, 0, none⟩)) rfl (by kernel_rfl) (by kernel_rfl) (by kernel_rfl) (fun _ _ _ h => h) (Or.inl ⟨by kernel_rfl, fun W h => (by first | kernel_rfl | go_simp)⟩) hS ?_
  refine wpAnyH_take (i := 4) (oi := { dst := some 40, op := Op.fieldAddr 44 (Operand.tmp 39) 1, type := 0, pos := "cache.go:54", after := #[{ on := 3, ground := Ground.data }], guard := none }) (v := .pointer (some ⟨g, 40, none⟩)) rfl (by kernel_rfl) (by kernel_rfl) (by kernel_rfl) (fun _ _ _ h => h) (Or.inl ⟨by kernel_rfl, fun W h => (by first | kernel_rfl | go_simp)⟩) hS ?_
  refine wpAnyH_take (i := 5) (oi := { dst := some 41, op := Op.indexAddr 39 (Operand.tmp 40) (Operand.tmp 37), type := 0, pos := "cache.go:54", after := #[{ on := 4, ground := Ground.data }, { on := 1, ground := Ground.data }], guard := none }) (v := .pointer (some ⟨g, 40 + d * 12, none⟩)) rfl (by kernel_rfl) (by kernel_rfl) (by kernel_rfl) (fun _ _ _ h => h) (Or.inl ⟨by kernel_rfl, fun W h => (by go_simp)⟩) hS ?_
  refine wpAnyH_take (i := 6) (oi := { dst := some 42, op := Op.load 38 (Operand.tmp 41), type := 38, pos := "cache.go:54", after := #[{ on := 5, ground := Ground.data }], guard := none }) (v := .agg ((cs.extract 40 (40 + 36)).extract (d * 12) (d * 12 + 12))) rfl (by kernel_rfl) (by kernel_rfl) (by kernel_rfl) (fun _ _ _ h => h) (Or.inl ⟨by kernel_rfl, fun W h => run_exec_load_part 38 (.tmp 41) (by kernel_rfl) g (40 + d * 12) 12 (by kernel_rfl) W 57 (cs ++ ds) _ _ h dir_under rfl dir_info (by simp; omega) (cut_fst z1 hd)⟩) hS ?_
  refine wpAnyH_take (i := 7) (oi := { dst := some 43, op := Op.move (Operand.tmp 0), type := 51, pos := "cache.go:54", after := #[], guard := none }) (v := .pointer (some ⟨g, 0, none⟩)) rfl (by kernel_rfl) (by kernel_rfl) (by kernel_rfl) (fun _ _ _ h => h) (Or.inl ⟨by kernel_rfl, fun W h => (by first | kernel_rfl | go_simp)⟩) hS ?_
  refine wpAnyH_take (i := 8) (oi := { dst := some 44, op := Op.move (Operand.tmp 6), type := 3, pos := "cache.go:54", after := #[], guard := none }) (v := .int .i64 (d : Int)) rfl (by kernel_rfl) (by kernel_rfl) (by kernel_rfl) (fun _ _ _ h => h) (Or.inl ⟨by kernel_rfl, fun W h => (by first | kernel_rfl | go_simp)⟩) hS ?_
  refine wpAnyH_take (i := 9) (oi := { dst := some 45, op := Op.nilCheck (Operand.tmp 43), type := 0, pos := "cache.go:54", after := #[{ on := 7, ground := Ground.data }], guard := none }) (v := .pointer (some ⟨g, 0, none⟩)) rfl (by kernel_rfl) (by kernel_rfl) (by kernel_rfl) (fun _ _ _ h => h) (Or.inl ⟨by kernel_rfl, fun W h => (by first | kernel_rfl | go_simp)⟩) hS ?_
  refine wpAnyH_take (i := 10) (oi := { dst := some 46, op := Op.fieldAddr 57 (Operand.tmp 45) 1, type := 0, pos := "cache.go:54", after := #[{ on := 9, ground := Ground.data }], guard := none }) (v := .pointer (some ⟨g, 94, none⟩)) rfl (by kernel_rfl) (by kernel_rfl) (by kernel_rfl) (fun _ _ _ h => h) (Or.inl ⟨by kernel_rfl, fun W h => (by first | kernel_rfl | go_simp)⟩) hS ?_
  refine wpAnyH_take (i := 11) (oi := { dst := some 47, op := Op.fieldAddr 44 (Operand.tmp 46) 1, type := 0, pos := "cache.go:54", after := #[{ on := 10, ground := Ground.data }], guard := none }) (v := .pointer (some ⟨g, 134, none⟩)) rfl (by kernel_rfl) (by kernel_rfl) (by kernel_rfl) (fun _ _ _ h => h) (Or.inl ⟨by kernel_rfl, fun W h => (by first | kernel_rfl | go_simp)⟩) hS ?_
  refine wpAnyH_take (i := 12) (oi := { dst := some 48, op := Op.indexAddr 39 (Operand.tmp 47) (Operand.tmp 44), type := 0, pos := "cache.go:54", after := #[{ on := 11, ground := Ground.data }, { on := 8, ground := Ground.data }], guard := none }) (v := .pointer (some ⟨g, 134 + d * 12, none⟩)) rfl (by kernel_rfl) (by kernel_rfl) (by kernel_rfl) (fun _ _ _ h => h) (Or.inl ⟨by kernel_rfl, fun W h => (by go_simp)⟩) hS ?_
  refine wpAnyH_take (i := 13) (oi := { dst := some 49, op := Op.load 38 (Operand.tmp 48), type := 38, pos := "cache.go:54", after := #[{ on := 12, ground := Ground.data }], guard := none }) (v := .agg ((ds.extract 40 (40 + 36)).extract (d * 12) (d * 12 + 12))) rfl (by kernel_rfl) (by kernel_rfl) (by kernel_rfl) (fun _ _ _ h => h) (Or.inl ⟨by kernel_rfl, fun W h => run_exec_load_part 38 (.tmp 48) (by kernel_rfl) g (134 + d * 12) 12 (by kernel_rfl) W 57 (cs ++ ds) _ _ h dir_under rfl dir_info (by simp; omega) (cut_snd z1 z2 hd)⟩) hS ?_
  refine wpAnyH_take (i := 14) (oi := { dst := some 50, op := Op.binOp BinOp.neq 38 (Operand.tmp 42) (Operand.tmp 49) 38, type := 4, pos := "cache.go:54", after := #[{ on := 6, ground := Ground.data }, { on := 13, ground := Ground.data }], guard := none }) (v := .bool (!Img.sameDir m k d)) rfl (by kernel_rfl) (by kernel_rfl) (by kernel_rfl) (fun _ _ _ h => h) (Or.inl ⟨by kernel_rfl, fun W h => run_exec_neql 38 38 (.tmp 42) (.tmp 49) (by kernel_rfl) _ _ (by kernel_rfl) (by kernel_rfl) _ Tryz.eqGuardType38 q W⟩) hS ?_
  refine wpAnyH_take (i := 15) (oi := { dst := some 4, op := Op.assign (Operand.tmp 50), type := 4, pos := "cache.go:54", after := #[{ on := 14, ground := Ground.data }, { on := 0, ground := Ground.phase }, { on := 1, ground := Ground.phase }, { on := 2, ground := Ground.phase }, { on := 3, ground := Ground.phase }, { on := 4, ground := Ground.phase }, { on := 5, ground := Ground.phase }, { on := 6, ground := Ground.phase }, { on := 7, ground := Ground.phase }, { on := 8, ground := Ground.phase }, { on := 9, ground := Ground.phase }, { on := 10, ground := Ground.phase }, { on := 11, ground := Ground.phase }, { on := 12, ground := Ground.phase }, { on := 13, ground := Ground.phase }, { on := 14, ground := Ground.phase }], guard := none }) (v := .bool (!Img.sameDir m k d)) rfl (by kernel_rfl) (by kernel_rfl) (by kernel_rfl) (fun _ _ _ h => h) (Or.inl ⟨by kernel_rfl, fun W h => (by kernel_rfl)⟩) hS ?_
  refine wpAnyH_done (by kernel_rfl) ?_ _
  simp only [Act.put, List.setIfInBounds_toArray, List.set_cons_zero, List.set_cons_succ]
  go_wp2_with fail
  go_ret
  exact ⟨rfl, (Below.refl _ _).drew⟩
set_option maxRecDepth 100000 in
set_option maxHeartbeats 2000000 in
theorem dirty_datas (g : Nat) (cs ds : Array Value) (m k : Img) (hi : IsImg cs m) (hj : IsImg ds k) (x : Nat) (hx : x < 9) (b : Int) (hn : kindS b = ⟨#[100, 97, 116, 97]⟩ ∧ kindN b = (x : Nat)) (w : World) (hg : w.heap[g]? = some (.cells (cs ++ ds) 57)) :
    Calls Tryz.prog 31 #[.pointer (some ⟨g, 0, none⟩), .int .i64 b] w fun e w' => e = .returned (.bool (!Img.sameDat m k x)) ∧ Below w.heap.size w w' := by
  have h0 := two_has hi hj hg 0
  have hgl := h0.1.lt
  have a1 := h0.1.of x hx
  have a2 := h0.1.text x hx
  have b1 := h0.2.of x hx
  have b2 := h0.2.text x hx
  have f0 : w.drewN 0 = w := rfl
  rw [f0] at a1 a2 b1 b2 hgl
  rw [Nat.zero_add] at a1 a2
  rw [show 94 + 76 = 170 from rfl] at b1 b2
  clear h0 f0
  have q := neqlDat (m.of x) (k.of x) (m.text x) (k.text x)
  rw [show (m.of x == k.of x && (m.text x).toList == (k.text x).toList) = Img.sameDat m k x from rfl] at q
  have hxz : (x : Int) < 9 := by omega
  go_enter Tryz.func31, Tryz.ntmps31
  go_wp2_with fail
  refine (block_any _ _).mono ?_
  rw [hn.1, hn.2]
  rintro e w1 ⟨rfl, e1⟩
  rw [e1]
  clear e1 w1
  go_wp2_with fail
  go_quiet (fail)
  go_wp2_with fail
  go_ret
  exact ⟨rfl, by first | exact belowN (Below.refl _ _) | exact (Below.refl _ _).drew⟩
set_option maxRecDepth 100000 in
set_option maxHeartbeats 2000000 in
theorem dirty_none (g : Nat) (b : Int) (hb : Img.inB b = false) (m k : Img) (w : World) :
    Calls Tryz.prog 31 #[.pointer (some ⟨g, 0, none⟩), .int .i64 b] w fun e w' => e = .returned (.bool (Img.dirty m k b)) ∧ Below w.heap.size w w' := by
  rw [Img.dirty_out hb]
  go_enter Tryz.func31, Tryz.ntmps31
  go_wp2_with fail
  refine (block_any _ _).mono ?_
  rw [(kind_out hb).1, (kind_out hb).2]
  rintro e w1 ⟨rfl, e1⟩
  rw [e1]
  clear e1 w1
  go_wp2_with fail
  go_ret
  exact ⟨rfl, Below.refl _ _⟩
theorem cDirty_any (g : Nat) (cs ds : Array Value) (m k : Img) (hi : IsImg cs m) (hj : IsImg ds k) (b : Int) (w : World) (hg : w.heap[g]? = some (.cells (cs ++ ds) 57)) :
    Calls Tryz.prog 31 #[.pointer (some ⟨g, 0, none⟩), .int .i64 b] w fun e w' => e = .returned (.bool (Img.dirty m k b)) ∧ Below w.heap.size w w' := by
  rcases Img.blocks b with h | ⟨q, hq, rfl⟩ | ⟨d, hd, rfl⟩ | ⟨x, hx, rfl⟩
  · exact dirty_none g b h m k w
  · match q, hq with
    | 0, _ => exact dirty_ino0 g cs ds m k hi hj w hg
    | 1, _ => exact dirty_ino1 g cs ds m k hi hj w hg
  · rw [Img.dirty_dir hd]; exact dirty_dirs g cs ds m k hi hj d hd _ (kind_dir hd) w hg
  · rw [Img.dirty_data hx]; exact dirty_datas g cs ds m k hi hj x hx _ (kind_data hx) w hg
end Go.Proofs.YtmbpckmpnnmnmacGreat
namespace Go.Proofs.YtmbpckmpnnmnmacGreat
open Go.RowKit
theorem zero_kinds : Kinds zeroCells := .of (size_newTo 0) (by kernel_rfl)
theorem zero_check : (imgOf zeroCells).check = 12 := by kernel_rfl
theorem cb_clean : Img.sameImg blankI blankI = true := by kernel_rfl
theorem cb_dirty0 : Img.dirty blankI blankI 0 = false := by kernel_rfl
theorem cb_ino : Img.freeIno blankI blankI = 0 := by kernel_rfl
theorem cb_slot1 : Img.freeSlot blankI blankI 1 = 0 := by kernel_rfl
theorem cb_data : Img.freeData blankI blankI = 0 := by kernel_rfl
theorem cb_slot3 : Img.freeSlot blankI blankI 3 = -1 := by kernel_rfl
theorem cb_dirty3 : Img.dirty oneI blankI 3 = true := by kernel_rfl
theorem cb_clean2 : Img.sameImg oneI blankI = false := by kernel_rfl
theorem cb_ino2 : Img.freeIno oneI blankI = 0 := by kernel_rfl
theorem cb_sync : (Img.syn oneI 8 blankI).1 = 2 := by kernel_rfl
theorem cb_synced : Img.sameImg oneI (Img.syn oneI 8 blankI).2 = true := by kernel_rfl
theorem cb_clean3 : Img.sameImg oneI oneI = true := by kernel_rfl
theorem cb_out : Img.inB (-1) = false := by decide
end Go.Proofs.YtmbpckmpnnmnmacGreat
namespace Go.Proofs.YtmbpckmpnnmnmacGreat
open Go.RowKit
open Idl (Stp chk stpA strs belowD one_new one_str)
namespace Sft
theorem names_cell {w : World} {base : Nat} {v : Value} {l : List ByteArray} (h : w.ownsRow base 9 1 v l.length (strs l)) :
    (v = .slice none 0 0 ∧ l = []) ∨ ∃ g c, v = .slice (some ⟨g, 0, none⟩) l.length c ∧ g < w.heap.size ∧ ∀ i (hi : i < l.length), w.cell? ⟨g, i, none⟩ = some (.string l[i]) := by
  rcases h.2 with ⟨h1, h2⟩ | ⟨g, cap, cur, h1, _, h3, h4, h5, h6, h7⟩
  · exact .inl ⟨h1, List.eq_nil_of_length_eq_zero h2⟩
  · refine .inr ⟨g, cap, h1, (Array.getElem?_eq_some_iff.1 h3).1, fun i hi => ?_⟩
    rw [cell_of_row w g _ _ _ _ h3]
    have : (strs l)[i]? = some (.string l[i]) := by simp [strs, hi]
    rw [← h7, List.getElem?_take] at this
    split at this
    · simpa using this
    · cases this
set_option maxHeartbeats 1000000 in
set_option maxRecDepth 100000 in
theorem SameTexts_any {w : World} {b1 b2 : Nat} {v1 v2 : Value} {l : List ByteArray} (h1 : w.ownsRow b1 9 1 v1 l.length (strs l)) (h2 : w.ownsRow b2 9 1 v2 l.length (strs l)) (hl : l.length ≤ 1000) :
    Calls Tryz.prog 21 #[v1, v2] w fun e w' => e = .returned (.bool true) ∧ Below w.heap.size w w' := by
  rcases names_cell h1 with ⟨rfl, rfl⟩ | ⟨g1, c1, rfl, gl1, k1⟩
  · have e2 : v2 = .slice none 0 0 ∨ ∃ g c, v2 = .slice (some ⟨g, 0, none⟩) 0 c := by
      rcases names_cell h2 with ⟨h, _⟩ | ⟨g, c, h, _, _⟩
      · exact .inl h
      · exact .inr ⟨g, c, h⟩
    clear h1 h2
    rcases e2 with rfl | ⟨g, c, rfl⟩
    · go_enter Tryz.func21, Tryz.ntmps21
      go_wp2
      go_loopw [5] (fun i wr => i = .int .i64 0 ∧ wr = w) (fun _ _ => 0)
      case atStart => exact ⟨rfl, rfl⟩
      case round =>
        obtain ⟨rfl, rfl⟩ := hrel
        go_wp2
        go_ret
        exact ⟨rfl, Below.refl _ _⟩
    · go_enter Tryz.func21, Tryz.ntmps21
      go_wp2
      go_loopw [5] (fun i wr => i = .int .i64 0 ∧ wr = w) (fun _ _ => 0)
      case atStart => exact ⟨rfl, rfl⟩
      case round =>
        obtain ⟨rfl, rfl⟩ := hrel
        go_wp2
        go_ret
        exact ⟨rfl, Below.refl _ _⟩
  · rcases names_cell h2 with ⟨rfl, rfl⟩ | ⟨g2, c2, rfl, gl2, k2⟩
    · clear h1 h2
      go_enter Tryz.func21, Tryz.ntmps21
      go_wp2
      go_loopw [5] (fun i wr => i = .int .i64 0 ∧ wr = w) (fun _ _ => 0)
      case atStart => exact ⟨rfl, rfl⟩
      case round =>
        obtain ⟨rfl, rfl⟩ := hrel
        go_wp2
        go_ret
        exact ⟨rfl, Below.refl _ _⟩
    · have K1 := hide k1
      have K2 := hide k2
      clear h1 h2 k1 k2
      go_enter Tryz.func21, Tryz.ntmps21
      go_wp2
      go_loopw [5] (fun i wr => ∃ k q : Nat, k ≤ l.length ∧ i = .int .i64 k ∧ wr = w.drewN q) (fun i _ => l.length - (intOf i).toNat)
      case atStart => exact ⟨0, 0, Nat.zero_le _, rfl, rfl⟩
      case round =>
        obtain ⟨k, q, hk, rfl, rfl⟩ := hrel
        by_cases hlt : k < l.length
        · have d1 := unhide K1 k hlt
          have d2 := unhide K2 k hlt
          generalize l[k] = nm at d1 d2
          have hz : (k : Int) < (l.length : Int) := by omega
          have hq : (nm.toList == nm.toList) = true := by simp
          go_wp2_with fail
          go_quiet (fail)
          go_wp2
          go_roundw
          case rel => exact ⟨k + 1, q + nq, by omega, by go_num, rfl⟩
          case measure => simp [intOf]; omega
        · go_wp2
          go_ret
          exact ⟨rfl, belowD (Below.refl _ _)⟩
end Sft
/-- files made behind w -/
structure Fo (w : World) (bf bc : Nat) (m k : Img) (last : Int) (W : World) : Prop where
  it : ∃ cs ds, Fl W bf bc cs ds m k last
  bel : Below w.heap.size w W
  f0 : w.heap.size ≤ bf
  c0 : w.heap.size ≤ bc
section
variable {w W W' : World} {bf bc : Nat} {m k : Img} {last : Int}
theorem Fo.call (h : Fo w bf bc m k last W) (hb : Below W.heap.size W W') : Fo w bf bc m k last W' := by
  obtain ⟨cs, ds, f⟩ := h.it
  exact ⟨⟨cs, ds, f.below hb⟩, h.bel.trans (hb.mono h.bel.size), h.f0, h.c0⟩
theorem Fo.new (w : World) {W : World} (hb : Below w.heap.size w W) : Calls Tryz.prog 36 #[] W fun e w' => ∃ bf bc, e = .returned (.pointer (some ⟨bf, 0, none⟩)) ∧ W.heap.size ≤ bf ∧ W.heap.size ≤ bc ∧ Fo w bf bc blankI blankI 0 w' ∧ Below W.heap.size W w' := by
  refine (sNew_any W).mono ?_
  rintro e w' ⟨⟨bf, bc, rfl, h1, h2, f⟩, b⟩
  exact ⟨bf, bc, rfl, h1, h2, ⟨⟨_, _, f⟩, hb.trans (b.mono hb.size), Nat.le_trans hb.size h1, Nat.le_trans hb.size h2⟩, b⟩
theorem Fo.step (h : Fo w bf bc m k last W) (hG : Img.Good m last) (hla : last < 4611686018427387904) (x : Stp) (hn : x.name.size ≤ maxLen) (ht : x.to.size ≤ maxLen) (hx : x.text.size ≤ maxLen) :
    Calls Tryz.prog 40 #[.pointer (some ⟨bf, 0, none⟩), .agg (stpA x)] W fun e w' => e = .returned (.int .i64 (Img.scode m k x)) ∧ Fo w bf bc (Img.sstep m k last x) k (Img.slast m k last x) w' ∧ Idl.Chg (fun i => i = bf ∨ i = bc) W w' := by
  obtain ⟨cs, ds, f⟩ := h.it
  refine (sDo_any f hG hla x hn ht hx).mono ?_
  rintro e w' ⟨rfl, d⟩
  obtain ⟨cs', f'⟩ := d.fl f.disk
  obtain ⟨_, hm, _⟩ := d
  have hb := hm.chg.below h.bel.size (fun i hi => by rcases hi with z | z; rw [z]; exact h.f0; rw [z]; exact h.c0)
  exact ⟨rfl, ⟨⟨cs', ds, f'⟩, h.bel.trans hb, h.f0, h.c0⟩, hm.chg⟩
theorem Fo.mut (h : Fo w bf bc m k last W) {cs ds es : Array Value} {k' : Img} (f : Fl W bf bc cs ds m k last) (hm : Mut W W' bc (cs ++ es) 57) (he : IsImg es k') : Fo w bf bc m k' last W' :=
  ⟨⟨cs, es, by rw [hm.old bf f.flt f.ne]; exact f.root, hm.row, f.now, he, f.ne⟩, h.bel.trans (hm.below _ h.c0 h.bel.size), h.f0, h.c0⟩
theorem Fo.write (h : Fo w bf bc m k last W) (b : Int) :
    Calls Tryz.prog 56 #[.pointer (some ⟨bc, 0, none⟩), .int .i64 b] W fun e w' => e = .returned (.bool (Img.inB b)) ∧ Fo w bf bc m (Img.write m k b) last w' ∧ ∃ c, Mut W w' bc c 57 := by
  obtain ⟨cs, ds, f⟩ := h.it
  refine (cWrite_any bc cs ds m k f.now f.disk b W f.row).mono ?_
  rintro e w' ⟨es, rfl, he, hm⟩
  exact ⟨rfl, h.mut f hm he, _, hm⟩
theorem Fo.sync (h : Fo w bf bc m k last W) :
    Calls Tryz.prog 29 #[.pointer (some ⟨bc, 0, none⟩)] W fun e w' => e = .returned (.int .i64 ((Img.syn m 8 k).1 : Nat)) ∧ Fo w bf bc m (Img.syn m 8 k).2 last w' ∧ ∃ c, Mut W w' bc c 57 := by
  obtain ⟨cs, ds, f⟩ := h.it
  refine (cSync_any bc cs ds m k f.now f.disk W f.row).mono ?_
  rintro e w' ⟨es, rfl, he, hm⟩
  exact ⟨rfl, h.mut f hm he, _, hm⟩
theorem Fo.sure (h : Fo w bf bc m k last W) (d : Int) (s : ByteArray) :
    Calls Tryz.prog 33 #[.pointer (some ⟨bf, 0, none⟩), .int .i64 d, .string s] W fun e w' => e = .returned (.bool (Img.ssure m k d s)) ∧ Fo w bf bc m k last w' ∧ Below W.heap.size W w' := by
  obtain ⟨cs, ds, f⟩ := h.it
  refine (sSure_any f d s).mono ?_
  rintro e w' ⟨rfl, b⟩
  exact ⟨rfl, h.call b, b⟩
theorem Fo.list (h : Fo w bf bc m k last W) (hm : m.check = 0) (d : Int) :
    Calls Tryz.prog 22 #[.pointer (some ⟨bf, 0, none⟩), .int .i64 d] W fun e w' => ∃ v, e = .returned v ∧ w'.ownsRow W.heap.size 9 1 v (Img.snames m d).length (strs (Img.snames m d)) ∧ Fo w bf bc m k last w' ∧ Below W.heap.size W w' := by
  obtain ⟨cs, ds, f⟩ := h.it
  refine (sList_any f hm d).mono ?_
  rintro e w' ⟨v, rfl, ho, b⟩
  exact ⟨v, rfl, ho, h.call b, b⟩
theorem Fo.cells (h : Fo w bf bc m k last W) : W.cell? ⟨bf, 0, none⟩ = some (.pointer (some ⟨bc, 0, none⟩)) ∧ bf < W.heap.size ∧ bc < W.heap.size ∧ HasAt W bc 0 m ∧ HasAt W bc 94 k := by
  obtain ⟨cs, ds, f⟩ := h.it
  exact ⟨f.ptr, f.flt, f.clt, f.hasNow, f.hasDisk⟩
end
namespace Sft
def sA : ByteArray := ⟨#[97]⟩
def sB : ByteArray := ⟨#[98]⟩
def sX : ByteArray := ⟨#[120]⟩
def y1 : Stp := ⟨1, 0, 0, 0, sA, Idl.none0, Idl.none0⟩
def y2 : Stp := ⟨5, 0, 0, 0, sA, Idl.none0, sX⟩
def y3 : Stp := ⟨2, 0, 2, 0, sA, sB, Idl.none0⟩
def M1 : Img := Img.sstep blankI blankI 0 y1
def M2 : Img := Img.sstep M1 blankI 1 y2
def M3 : Img := Img.sstep M2 blankI 1 y3
theorem k1 : Img.scode blankI blankI y1 = 0 := by kernel_rfl
theorem k2 : Img.scode M1 blankI y2 = 0 := by kernel_rfl
theorem k3 : Img.scode M2 blankI y3 = 0 := by kernel_rfl
theorem l1 : Img.slast blankI blankI 0 y1 = 1 := by kernel_rfl
theorem l2 : Img.slast M1 blankI 1 y2 = 1 := by kernel_rfl
theorem l3 : Img.slast M2 blankI 1 y3 = 1 := by kernel_rfl
theorem k4 : Img.sreadC M3 2 sB 0 = 0 := by kernel_rfl
theorem k5 : Img.sreadB M3 2 sB 0 = true := by kernel_rfl
theorem k6 : Img.sreadT M3 2 sB 0 = sX := by kernel_rfl
theorem k7 : Img.ssame M3 0 sA 2 sB = true := by kernel_rfl
theorem k8 : Img.ssure M3 blankI 0 sA = false := by kernel_rfl
theorem k9 : Img.snames M3 2 = [sB] := by kernel_rfl
theorem k10 : M3.links 0 = 2 := by kernel_rfl
theorem blank_ex : blankI.exact = true := by kernel_rfl
theorem blank_dead : Img.anyB blankI.live 8 = false := by kernel_rfl
theorem good0 : Img.Good blankI 0 := ⟨Img.ex_iff.1 blank_ex, Int.le_refl _, fun n hn hl => by rw [Img.anyB_false.1 blank_dead n hn] at hl; cases hl⟩
theorem good1 : Img.Good M1 1 := by have := Img.good_step (disk := blankI) good0 y1; rw [l1] at this; exact this
theorem good2 : Img.Good M2 1 := by have := Img.good_step (disk := blankI) good1 y2; rw [l2] at this; exact this
theorem good3 : Img.Good M3 1 := by have := Img.good_step (disk := blankI) good2 y3; rw [l3] at this; exact this
theorem small (n : Nat) (h : n ≤ 1) : n ≤ maxLen := by unfold maxLen; omega
end Sft
end Go.Proofs.YtmbpckmpnnmnmacGreat
