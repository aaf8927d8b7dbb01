/-
  An image is like itself: '==' of whole images, and of inodes.
-/
import Derived.Test.YtlbgkpibaahglacDoorTh
import Derived.ChangeKeysEq
namespace Go.Proofs.YtlbgkpibaahglacDoor
open Go.RowKit
section
variable {P : Program}
def EqR (P : Program) (dd : Nat) (t : TypeId) (v : Value) : Prop := ∀ w, (Op.equalIn dd t v v).run P w = .ok true w
theorem eqItems_refl (dd : Nat) (e : TypeId) (c : Nat) (xs : Array Value) : ∀ is : List Nat, (∀ i ∈ is, ∃ a, (∀ w, (part e xs (i * c)).run P w = .ok a w) ∧ EqR P dd e a) → ∀ w, (Op.eqItems dd e c xs xs is).run P w = .ok true w
  | [], _, w => by simp [Op.eqItems]
  | i :: is, h, w => by
    obtain ⟨a, h1, h2⟩ := h i (by simp)
    have ih := eqItems_refl dd e c xs is (fun j hj => h j (by simp [hj])) w
    simp only [Op.eqItems, Sem.run_bind, h1, h2 w, Result.andThen_ok]
    simpa using ih
theorem eqFields_refl (dd : Nat) (xs : Array Value) : ∀ fs : List Field, (∀ f ∈ fs, f.name ≠ "_" ∧ ∃ a, (∀ w, (part f.type xs f.offset).run P w = .ok a w) ∧ EqR P dd f.type a) → ∀ w, (Op.eqFields dd xs xs fs).run P w = .ok true w
  | [], _, w => by simp [Op.eqFields]
  | f :: fs, h, w => by
    obtain ⟨hn, a, h1, h2⟩ := h f (by simp)
    have ih := eqFields_refl dd xs fs (fun j hj => h j (by simp [hj])) w
    simp only [Op.eqFields, hn, ne_eq, not_false_eq_true, if_true, Sem.run_bind, h1, h2 w, Result.andThen_ok]
    simpa using ih
end
theorem part_inode (xs : Array Value) (off : Nat) (w : World) : (part 24 xs off).run Tryd.prog w = .ok (.agg (xs.extract off (off + 5))) w := by
  have u := run_underlying (w := w) Tryd.underlying24
  simp [part, isAgg, u]
theorem part_entry (xs : Array Value) (off : Nat) (w : World) : (part 27 xs off).run Tryd.prog w = .ok (.agg (xs.extract off (off + 3))) w := by
  have u := run_underlying (w := w) Tryd.underlying27
  simp [part, isAgg, u]
theorem part_data (xs : Array Value) (off : Nat) (w : World) : (part 31 xs off).run Tryd.prog w = .ok (.agg (xs.extract off (off + 2))) w := by
  have u := run_underlying (w := w) Tryd.underlying31
  simp [part, isAgg, u]
theorem part_dir (xs : Array Value) (off : Nat) (w : World) : (part 28 xs off).run Tryd.prog w = .ok (.agg (xs.extract off (off + 12))) w := by
  have u := run_underlying (w := w) Tryd.underlying28
  simp [part, isAgg, u]
theorem part_inodes (xs : Array Value) (off : Nat) (w : World) : (part 25 xs off).run Tryd.prog w = .ok (.agg (xs.extract off (off + 40))) w := by
  have u := run_underlying (w := w) Tryd.underlying25
  simp [part, isAgg, u]
theorem part_dirs (xs : Array Value) (off : Nat) (w : World) : (part 29 xs off).run Tryd.prog w = .ok (.agg (xs.extract off (off + 36))) w := by
  have u := run_underlying (w := w) Tryd.underlying29
  simp [part, isAgg, u]
theorem part_datas (xs : Array Value) (off : Nat) (w : World) : (part 32 xs off).run Tryd.prog w = .ok (.agg (xs.extract off (off + 18))) w := by
  have u := run_underlying (w := w) Tryd.underlying32
  simp [part, isAgg, u]
theorem eqParts_r (d : Nat) (a b : Int) (w : World) : (Op.equalIn (d + 2) 22 (.agg #[.int .i64 a, .int .i64 b]) (.agg #[.int .i64 a, .int .i64 b])).run Tryd.prog w = .ok true w := by
  have u3 := Tryd.underlying3
  have a3 := Tryd.isAgg3
  have z3 := Tryd.sizeOf3
  rw [show d + 2 = (d + 1) + 1 from rfl, Op.equalIn]
  simp only [Sem.run_bind, run_underlying Tryd.underlying22, Result.andThen_ok]
  simp only [Std.Legacy.Range.forIn_eq_forIn_range', Std.Legacy.Range.size, Nat.sub_zero, Nat.add_sub_cancel, Nat.div_one, List.range'_succ, List.range'_zero, List.forIn_cons, List.forIn_nil]
  go_simp
theorem eqIno_r (d : Nat) (i : Ino) : EqR Tryd.prog (d + 3) 24 (inoV i) := by
  intro w
  have u1 := Tryd.underlying3
  have u2 := Tryd.underlying4
  have q := eqParts_r d
  unfold inoV
  rw [show d + 3 = (d + 2) + 1 from rfl]
  go_simp
theorem eqEnt_r (d : Nat) (e : Ent) : EqR Tryd.prog (d + 2) 27 (entV e) := by
  intro w
  have u1 := Tryd.underlying3
  have u2 := Tryd.underlying9
  unfold entV
  rw [show d + 2 = (d + 1) + 1 from rfl]
  go_simp
theorem eqDat_r (d : Nat) (o : Int) (t : ByteArray) : EqR Tryd.prog (d + 2) 31 (.agg #[.int .i64 o, .string t]) := by
  intro w
  have u1 := Tryd.underlying3
  have u2 := Tryd.underlying9
  rw [show d + 2 = (d + 1) + 1 from rfl]
  go_simp
theorem ext_at {xs : Array Value} {a b j : Nat} {v : Value} (hj : a + j < b) (h : xs[a + j]? = some v) : (xs.extract a b)[j]? = some v := by
  have hs : a + j < xs.size := (Array.getElem?_eq_some_iff.1 h).1
  rw [Array.getElem?_extract, if_pos (by omega)]; exact h
theorem cut5 {xs : Array Value} {o : Nat} {v0 v1 v2 v3 v4 : Value} (h0 : xs[o]? = some v0) (h1 : xs[o + 1]? = some v1) (h2 : xs[o + 2]? = some v2) (h3 : xs[o + 3]? = some v3) (h4 : xs[o + 4]? = some v4) : xs.extract o (o + 5) = #[v0, v1, v2, v3, v4] := by
  have hs : o + 4 < xs.size := (Array.getElem?_eq_some_iff.1 h4).1
  refine Array.ext_getElem? fun j => ?_
  rw [Array.getElem?_extract]
  by_cases hj : j < 5
  · rw [if_pos (by omega)]
    match j, hj with
    | 0, _ => exact h0
    | 1, _ => exact h1
    | 2, _ => exact h2
    | 3, _ => exact h3
    | 4, _ => exact h4
  · rw [if_neg (by omega), Array.getElem?_eq_none (by simp; omega)]
theorem cut3 {xs : Array Value} {o : Nat} {v0 v1 v2 : Value} (h0 : xs[o]? = some v0) (h1 : xs[o + 1]? = some v1) (h2 : xs[o + 2]? = some v2) : xs.extract o (o + 3) = #[v0, v1, v2] := by
  have hs : o + 2 < xs.size := (Array.getElem?_eq_some_iff.1 h2).1
  refine Array.ext_getElem? fun j => ?_
  rw [Array.getElem?_extract]
  by_cases hj : j < 3
  · rw [if_pos (by omega)]
    match j, hj with
    | 0, _ => exact h0
    | 1, _ => exact h1
    | 2, _ => exact h2
  · rw [if_neg (by omega), Array.getElem?_eq_none (by simp; omega)]
theorem cut2 {xs : Array Value} {o : Nat} {v0 v1 : Value} (h0 : xs[o]? = some v0) (h1 : xs[o + 1]? = some v1) : xs.extract o (o + 2) = #[v0, v1] := by
  have hs : o + 1 < xs.size := (Array.getElem?_eq_some_iff.1 h1).1
  refine Array.ext_getElem? fun j => ?_
  rw [Array.getElem?_extract]
  by_cases hj : j < 2
  · rw [if_pos (by omega)]
    match j, hj with
    | 0, _ => exact h0
    | 1, _ => exact h1
  · rw [if_neg (by omega), Array.getElem?_eq_none (by simp; omega)]
theorem cells_ino : Tryd.prog.cellsOf 24 = 5 := by kernel_rfl
theorem cells_ent : Tryd.prog.cellsOf 27 = 3 := by kernel_rfl
theorem cells_dat : Tryd.prog.cellsOf 31 = 2 := by kernel_rfl
theorem cells_dir : Tryd.prog.cellsOf 28 = 12 := by kernel_rfl
theorem info_ino : ∃ i, Tryd.prog.info? 24 = some i := info_of_underlying Tryd.underlying24
theorem info_ent : ∃ i, Tryd.prog.info? 27 = some i := info_of_underlying Tryd.underlying27
theorem info_dat : ∃ i, Tryd.prog.info? 31 = some i := info_of_underlying Tryd.underlying31
theorem info_dir : ∃ i, Tryd.prog.info? 28 = some i := info_of_underlying Tryd.underlying28
variable {cs : Array Value} {m : Img}
theorem eqInos_r (h : IsImg cs m) (d : Nat) : EqR Tryd.prog (d + 4) 25 (.agg (cs.extract 0 (0 + 40))) := by
  intro w
  obtain ⟨i, hi⟩ := info_ino
  rw [show d + 4 = (d + 3) + 1 from rfl, run_equalIn_array w (d + 3) _ _ Tryd.underlying25 hi, cells_ino]
  refine eqItems_refl _ _ _ _ _ (fun n hn => ?_) w
  have hn8 : n < 8 := List.mem_range.1 hn
  refine ⟨_, part_inode _ _, ?_⟩
  rw [cut5 (ext_at (by omega) (by rw [Nat.zero_add]; exact h.live n hn8)) (ext_at (by omega) (by rw [Nat.zero_add]; exact h.stamp n hn8)) (ext_at (by omega) (by rw [Nat.zero_add]; exact h.links n hn8)) (ext_at (by omega) (by rw [Nat.zero_add]; exact h.part n 0 hn8 (by omega))) (ext_at (by omega) (by rw [Nat.zero_add]; exact h.part n 1 hn8 (by omega)))]
  exact eqIno_r d (m.inode n)
theorem eqDir_r (h : IsImg cs m) (d k : Nat) (hd : k < 3) : EqR Tryd.prog (d + 3) 28 (.agg ((cs.extract 40 (40 + 36)).extract (k * 12) (k * 12 + 12))) := by
  intro w
  obtain ⟨i, hi⟩ := info_ent
  rw [show d + 3 = (d + 2) + 1 from rfl, run_equalIn_array w (d + 2) _ _ Tryd.underlying28 hi, cells_ent]
  refine eqItems_refl _ _ _ _ _ (fun s hs => ?_) w
  have hs4 : s < 4 := List.mem_range.1 hs
  refine ⟨_, part_entry _ _, ?_⟩
  rw [cut3 (ext_at (by omega) (ext_at (by omega) (by rw [← Nat.add_assoc]; exact h.name k s hd hs4))) (ext_at (by omega) (ext_at (by omega) (by rw [← Nat.add_assoc, ← Nat.add_assoc]; exact h.ino k s hd hs4))) (ext_at (by omega) (ext_at (by omega) (by rw [← Nat.add_assoc, ← Nat.add_assoc]; exact h.est k s hd hs4)))]
  exact eqEnt_r d (m.entry k s)
theorem eqDirs_r (h : IsImg cs m) (d : Nat) : EqR Tryd.prog (d + 4) 29 (.agg (cs.extract 40 (40 + 36))) := by
  intro w
  obtain ⟨i, hi⟩ := info_dir
  rw [show d + 4 = (d + 3) + 1 from rfl, run_equalIn_array w (d + 3) _ _ Tryd.underlying29 hi, cells_dir]
  refine eqItems_refl _ _ _ _ _ (fun k hk => ?_) w
  exact ⟨_, part_dir _ _, eqDir_r h d k (List.mem_range.1 hk)⟩
theorem eqDatas_r (h : IsImg cs m) (d : Nat) : EqR Tryd.prog (d + 4) 32 (.agg (cs.extract 76 (76 + 18))) := by
  intro w
  obtain ⟨i, hi⟩ := info_dat
  rw [show d + 4 = (d + 3) + 1 from rfl, run_equalIn_array w (d + 3) _ _ Tryd.underlying32 hi, cells_dat]
  refine eqItems_refl _ _ _ _ _ (fun x hx => ?_) w
  have hx9 : x < 9 := List.mem_range.1 hx
  refine ⟨_, part_data _ _, ?_⟩
  rw [cut2 (ext_at (by omega) (h.of x hx9)) (ext_at (by omega) (by rw [← Nat.add_assoc]; exact h.text x hx9))]
  exact eqDat_r (d + 1) (m.of x) (m.text x)
def fieldT (f : Field) : Bool × TypeId × Nat := (f.name != "_", f.type, f.offset)
theorem img_fields : (Tryd.prog.fieldsOf 34).toList.map fieldT = [(true, 25, 0), (true, 29, 40), (true, 32, 76)] := by kernel_rfl
theorem img_stood : Tryd.prog.stoodInHeld 34 = false := by kernel_rfl
theorem eqImg_in (h : IsImg cs m) (w : World) : (Op.equalIn 10000 34 (.agg cs) (.agg cs)).run Tryd.prog w = .ok true w := by
  rw [show (10000 : Nat) = 9999 + 1 from rfl, run_equalIn_struct w 9999 34 cs cs img_under img_stood]
  refine eqFields_refl _ _ _ (fun f hf => ?_) w
  have hm := List.mem_map_of_mem (f := fieldT) hf
  rw [img_fields] at hm
  simp only [List.mem_cons, List.not_mem_nil, or_false, fieldT, Prod.mk.injEq, bne_iff_ne] at hm
  rcases hm with ⟨a1, a2, a3⟩ | ⟨a1, a2, a3⟩ | ⟨a1, a2, a3⟩
  · exact ⟨a1, _, by rw [a2, a3]; exact part_inodes _ _, by rw [a2]; exact eqInos_r h 9995⟩
  · exact ⟨a1, _, by rw [a2, a3]; exact part_dirs _ _, by rw [a2]; exact eqDirs_r h 9995⟩
  · exact ⟨a1, _, by rw [a2, a3]; exact part_datas _ _, by rw [a2]; exact eqDatas_r h 9995⟩
theorem eqImg (h : IsImg cs m) (w : World) : (binOp .eql 34 (.agg cs) (.agg cs)).run Tryd.prog w = .ok (.bool true) w := by
  rw [run_eql_struct, eqImg_in h]; rfl
theorem neqImg (h : IsImg cs m) (w : World) : (binOp .neq 34 (.agg cs) (.agg cs)).run Tryd.prog w = .ok (.bool false) w := by
  rw [run_neq_struct, eqImg_in h]; rfl
theorem eqInode (i : Ino) (w : World) : (binOp .eql 24 (inoV i) (inoV i)).run Tryd.prog w = .ok (.bool true) w := by
  unfold inoV
  rw [run_eql_struct]
  have := eqIno_r 9997 i w
  unfold inoV at this
  rw [this]; rfl
end Go.Proofs.YtlbgkpibaahglacDoor
