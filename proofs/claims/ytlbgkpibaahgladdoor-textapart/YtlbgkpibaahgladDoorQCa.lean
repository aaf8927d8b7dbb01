/-
  '==' of images, inodes, directories and data, whatever it answers.
-/
import Derived.Test.YtlbgkpibaahgladDoorQTg
namespace Go.Proofs.YtlbgkpibaahgladDoor
open Go.RowKit
section
variable {P : Program}
def EqV (P : Program) (dd : Nat) (t : TypeId) (x y : Value) (v : Bool) : Prop := ∀ w, (Op.equalIn dd t x y).run P w = .ok v w
theorem eqItems_v (dd : Nat) (e : TypeId) (c : Nat) (xs ys : Array Value) (f : Nat → Bool) : ∀ is : List Nat, (∀ i ∈ is, ∃ a b, (∀ w, (part e xs (i * c)).run P w = .ok a w) ∧ (∀ w, (part e ys (i * c)).run P w = .ok b w) ∧ EqV P dd e a b (f i)) → ∀ w, (Op.eqItems dd e c xs ys is).run P w = .ok (is.all f) w
  | [], _, w => by simp [Op.eqItems]
  | i :: is, h, w => by
    obtain ⟨a, b, h1, h2, h3⟩ := h i (by simp)
    have ih := eqItems_v dd e c xs ys f is (fun j hj => h j (by simp [hj])) w
    simp only [Op.eqItems, Sem.run_bind, h1, h2, h3 w, Result.andThen_ok, List.all_cons]
    cases f i
    · simp
    · simpa using ih
theorem eqFields_v (dd : Nat) (xs ys : Array Value) (g : Nat → Bool) : ∀ fs : List Field, (∀ f ∈ fs, f.name ≠ "_" ∧ ∃ a b, (∀ w, (part f.type xs f.offset).run P w = .ok a w) ∧ (∀ w, (part f.type ys f.offset).run P w = .ok b w) ∧ EqV P dd f.type a b (g f.offset)) → ∀ w, (Op.eqFields dd xs ys fs).run P w = .ok (fs.all fun f => g f.offset) w
  | [], _, w => by simp [Op.eqFields]
  | f :: fs, h, w => by
    obtain ⟨hn, a, b, h1, h2, h3⟩ := h f (by simp)
    have ih := eqFields_v dd xs ys g fs (fun j hj => h j (by simp [hj])) w
    simp only [Op.eqFields, hn, ne_eq, not_false_eq_true, if_true, Sem.run_bind, h1, h2, h3 w, Result.andThen_ok, List.all_cons]
    cases g f.offset
    · simp
    · simpa using ih
end
namespace Img
def sameIno (a b : Img) (n : Nat) : Bool := a.live n == b.live n && a.stamp n == b.stamp n && a.links n == b.links n && a.part n 0 == b.part n 0 && a.part n 1 == b.part n 1
def sameDat (a b : Img) (x : Nat) : Bool := a.of x == b.of x && (a.text x).toList == (b.text x).toList
def sameDir (a b : Img) (d : Nat) : Bool := (List.range 4).all fun s => sameEnt a b d s
def sameImg (a b : Img) : Bool := ((List.range 8).all fun n => sameIno a b n) && ((List.range 3).all fun d => sameDir a b d) && ((List.range 9).all fun x => sameDat a b x)
theorem same_iff {a b : Img} : sameImg a b = true ↔ Agree a b := by
  unfold sameImg sameDir sameIno sameDat sameEnt
  simp only [Bool.and_eq_true, List.all_eq_true, List.mem_range, beq_iff_eq]
  constructor
  · rintro ⟨⟨h1, h2⟩, h3⟩
    refine ⟨fun n hn => (h1 n hn).1.1.1.1, fun n hn => (h1 n hn).1.1.1.2, fun n hn => (h1 n hn).1.1.2, fun n p hn hp => ?_, fun d s hd hs => bytes_ext (h2 d hd s hs).1.1, fun d s hd hs => (h2 d hd s hs).1.2, fun d s hd hs => (h2 d hd s hs).2, fun x hx => (h3 x hx).1, fun x hx => bytes_ext (h3 x hx).2⟩
    match p, hp with
    | 0, _ => exact (h1 n hn).1.2
    | 1, _ => exact (h1 n hn).2
  · intro h
    exact ⟨⟨fun n hn => ⟨⟨⟨⟨h.live n hn, h.stamp n hn⟩, h.links n hn⟩, h.part n 0 hn (by omega)⟩, h.part n 1 hn (by omega)⟩, fun d hd s hs => ⟨⟨by rw [h.name d s hd hs], h.ino d s hd hs⟩, h.est d s hd hs⟩⟩, fun x hx => ⟨h.of x hx, by rw [h.text x hx]⟩⟩
end Img
theorem eqParts_v (d : Nat) (a b c e : Int) (w : World) : (Op.equalIn (d + 2) 22 (.agg #[.int .i64 a, .int .i64 b]) (.agg #[.int .i64 c, .int .i64 e])).run Tryd.prog w = .ok (a == c && b == e) w := by
  have u3 := Tryd.underlying3
  have a3 := Tryd.isAgg3
  have z3 := Tryd.sizeOf3
  rw [show d + 2 = (d + 1) + 1 from rfl, Op.equalIn]
  simp only [Sem.run_bind, run_underlying Tryd.underlying22, Result.andThen_ok]
  simp only [Std.Legacy.Range.forIn_eq_forIn_range', Std.Legacy.Range.size, Nat.sub_zero, Nat.add_sub_cancel, Nat.div_one, List.range'_succ, List.range'_zero, List.forIn_cons, List.forIn_nil]
  cases h1 : a == c <;> cases h2 : b == e <;> (go_simp; try simp_all)
def inoB (i j : Ino) : Bool := i.live == j.live && i.stamp == j.stamp && i.links == j.links && i.p0 == j.p0 && i.p1 == j.p1
set_option maxHeartbeats 1000000 in
theorem eqIno_v (d : Nat) (i j : Ino) : EqV Tryd.prog (d + 3) 24 (inoV i) (inoV j) (inoB i j) := by
  intro w
  have u1 := Tryd.underlying3
  have u2 := Tryd.underlying4
  have q := eqParts_v d
  unfold inoV inoB
  rw [show d + 3 = (d + 2) + 1 from rfl]
  go_simp
  cases h1 : i.live == j.live <;> cases h2 : i.stamp == j.stamp <;> cases h3 : i.links == j.links <;> cases h4 : i.p0 == j.p0 <;> cases h5 : i.p1 == j.p1 <;> simp_all
theorem eqEnt_v (d : Nat) (e f : Ent) : EqV Tryd.prog (d + 2) 27 (entV e) (entV f) (e.name.toList == f.name.toList && e.ino == f.ino && e.est == f.est) := by
  intro w
  have u1 := Tryd.underlying3
  have u2 := Tryd.underlying9
  unfold entV
  rw [show d + 2 = (d + 1) + 1 from rfl]
  go_simp
  cases h1 : e.name.toList == f.name.toList <;> cases h2 : e.ino == f.ino <;> cases h3 : e.est == f.est <;> simp_all
theorem eqDat_v (d : Nat) (o p : Int) (t u : ByteArray) : EqV Tryd.prog (d + 2) 31 (.agg #[.int .i64 o, .string t]) (.agg #[.int .i64 p, .string u]) (o == p && t.toList == u.toList) := by
  intro w
  have u1 := Tryd.underlying3
  have u2 := Tryd.underlying9
  rw [show d + 2 = (d + 1) + 1 from rfl]
  go_simp
  cases h1 : o == p <;> cases h2 : t.toList == u.toList <;> simp_all
section
variable {cs ds : Array Value} {m k : Img}
theorem cutIno (h : IsImg cs m) {n : Nat} (hn : n < 8) : (cs.extract 0 (0 + 40)).extract (n * 5) (n * 5 + 5) = #[.bool (m.live n), .int .i64 (m.stamp n), .int .i64 (m.links n), .int .i64 (m.part n 0), .int .i64 (m.part n 1)] :=
  cut5 (ext_at (by omega) (by rw [Nat.zero_add]; exact h.live n hn)) (ext_at (by omega) (by rw [Nat.zero_add]; exact h.stamp n hn)) (ext_at (by omega) (by rw [Nat.zero_add]; exact h.links n hn)) (ext_at (by omega) (by rw [Nat.zero_add]; exact h.part n 0 hn (by omega))) (ext_at (by omega) (by rw [Nat.zero_add]; exact h.part n 1 hn (by omega)))
theorem eqInos_v (h : IsImg cs m) (h' : IsImg ds k) (d : Nat) : EqV Tryd.prog (d + 4) 25 (.agg (cs.extract 0 (0 + 40))) (.agg (ds.extract 0 (0 + 40))) ((List.range 8).all fun n => Img.sameIno m k n) := by
  intro w
  obtain ⟨i, hi⟩ := info_ino
  rw [show d + 4 = (d + 3) + 1 from rfl, run_equalIn_array w (d + 3) _ _ Tryd.underlying25 hi, cells_ino]
  refine eqItems_v _ _ _ _ _ _ _ (fun n hn => ?_) w
  have hn8 : n < 8 := List.mem_range.1 hn
  refine ⟨_, _, part_inode _ _, part_inode _ _, ?_⟩
  rw [cutIno h hn8, cutIno h' hn8]
  exact eqIno_v d (m.inode n) (k.inode n)
theorem cutEnt (h : IsImg cs m) {e s : Nat} (hd : e < 3) (hs4 : s < 4) : ((cs.extract 40 (40 + 36)).extract (e * 12) (e * 12 + 12)).extract (s * 3) (s * 3 + 3) = #[.string (m.name e s), .int .i64 (m.ino e s), .int .i64 (m.est e s)] :=
  cut3 (ext_at (by omega) (ext_at (by omega) (by rw [← Nat.add_assoc]; exact h.name e s hd hs4))) (ext_at (by omega) (ext_at (by omega) (by rw [← Nat.add_assoc, ← Nat.add_assoc]; exact h.ino e s hd hs4))) (ext_at (by omega) (ext_at (by omega) (by rw [← Nat.add_assoc, ← Nat.add_assoc]; exact h.est e s hd hs4)))
theorem eqDir_v (h : IsImg cs m) (h' : IsImg ds k) (d e : Nat) (hd : e < 3) : EqV Tryd.prog (d + 3) 28 (.agg ((cs.extract 40 (40 + 36)).extract (e * 12) (e * 12 + 12))) (.agg ((ds.extract 40 (40 + 36)).extract (e * 12) (e * 12 + 12))) (Img.sameDir m k e) := by
  intro w
  obtain ⟨i, hi⟩ := info_ent
  rw [show d + 3 = (d + 2) + 1 from rfl, run_equalIn_array w (d + 2) _ _ Tryd.underlying28 hi, cells_ent]
  refine eqItems_v _ _ _ _ _ _ _ (fun s hs => ?_) w
  have hs4 : s < 4 := List.mem_range.1 hs
  refine ⟨_, _, part_entry _ _, part_entry _ _, ?_⟩
  rw [cutEnt h hd hs4, cutEnt h' hd hs4]
  exact eqEnt_v d (m.entry e s) (k.entry e s)
theorem eqDirs_v (h : IsImg cs m) (h' : IsImg ds k) (d : Nat) : EqV Tryd.prog (d + 4) 29 (.agg (cs.extract 40 (40 + 36))) (.agg (ds.extract 40 (40 + 36))) ((List.range 3).all fun e => Img.sameDir m k e) := by
  intro w
  obtain ⟨i, hi⟩ := info_dir
  rw [show d + 4 = (d + 3) + 1 from rfl, run_equalIn_array w (d + 3) _ _ Tryd.underlying29 hi, cells_dir]
  refine eqItems_v _ _ _ _ _ _ _ (fun e he => ?_) w
  exact ⟨_, _, part_dir _ _, part_dir _ _, eqDir_v h h' d e (List.mem_range.1 he)⟩
theorem cutDat (h : IsImg cs m) {x : Nat} (hx9 : x < 9) : (cs.extract 76 (76 + 18)).extract (x * 2) (x * 2 + 2) = #[.int .i64 (m.of x), .string (m.text x)] :=
  cut2 (ext_at (by omega) (h.of x hx9)) (ext_at (by omega) (by rw [← Nat.add_assoc]; exact h.text x hx9))
theorem eqDatas_v (h : IsImg cs m) (h' : IsImg ds k) (d : Nat) : EqV Tryd.prog (d + 4) 32 (.agg (cs.extract 76 (76 + 18))) (.agg (ds.extract 76 (76 + 18))) ((List.range 9).all fun x => Img.sameDat m k x) := by
  intro w
  obtain ⟨i, hi⟩ := info_dat
  rw [show d + 4 = (d + 3) + 1 from rfl, run_equalIn_array w (d + 3) _ _ Tryd.underlying32 hi, cells_dat]
  refine eqItems_v _ _ _ _ _ _ _ (fun x hx => ?_) w
  have hx9 : x < 9 := List.mem_range.1 hx
  refine ⟨_, _, part_data _ _, part_data _ _, ?_⟩
  rw [cutDat h hx9, cutDat h' hx9]
  exact eqDat_v (d + 1) _ _ _ _
def partB (m k : Img) (o : Nat) : Bool := if o = 0 then (List.range 8).all fun n => Img.sameIno m k n else if o = 40 then (List.range 3).all fun d => Img.sameDir m k d else (List.range 9).all fun x => Img.sameDat m k x
theorem img_all (m k : Img) : ((Tryd.prog.fieldsOf 34).toList.all fun f => partB m k f.offset) = Img.sameImg m k := by
  have e : ((Tryd.prog.fieldsOf 34).toList.all fun f => partB m k f.offset) = (((Tryd.prog.fieldsOf 34).toList.map fieldT).all fun p => partB m k p.2.2) := by
    rw [List.all_map]; rfl
  rw [e, img_fields]
  simp [partB, Img.sameImg, Bool.and_assoc]
theorem eqImg_v (h : IsImg cs m) (h' : IsImg ds k) (w : World) : (Op.equalIn 10000 34 (.agg cs) (.agg ds)).run Tryd.prog w = .ok (Img.sameImg m k) w := by
  rw [show (10000 : Nat) = 9999 + 1 from rfl, run_equalIn_struct w 9999 34 cs ds img_under img_stood, ← img_all]
  refine eqFields_v _ _ _ (partB m k) _ (fun f hf => ?_) w
  have hm := List.mem_map_of_mem (f := fieldT) hf
  rw [img_fields] at hm
  simp only [List.mem_cons, List.not_mem_nil, or_false, fieldT, Prod.mk.injEq, bne_iff_ne] at hm
  rcases hm with ⟨a1, a2, a3⟩ | ⟨a1, a2, a3⟩ | ⟨a1, a2, a3⟩
  · exact ⟨a1, _, _, by rw [a2, a3]; exact part_inodes _ _, by rw [a2, a3]; exact part_inodes _ _, by rw [a2, a3]; exact eqInos_v h h' 9995⟩
  · exact ⟨a1, _, _, by rw [a2, a3]; exact part_dirs _ _, by rw [a2, a3]; exact part_dirs _ _, by rw [a2, a3]; exact eqDirs_v h h' 9995⟩
  · exact ⟨a1, _, _, by rw [a2, a3]; exact part_datas _ _, by rw [a2, a3]; exact part_datas _ _, by rw [a2, a3]; exact eqDatas_v h h' 9995⟩
theorem eqlImg (h : IsImg cs m) (h' : IsImg ds k) (w : World) : (binOp .eql 34 (.agg cs) (.agg ds)).run Tryd.prog w = .ok (.bool (Img.sameImg m k)) w := by
  rw [run_eql_struct, eqImg_v h h']; rfl
theorem neqlImg (h : IsImg cs m) (h' : IsImg ds k) (w : World) : (binOp .neq 34 (.agg cs) (.agg ds)).run Tryd.prog w = .ok (.bool (!Img.sameImg m k)) w := by
  rw [run_neq_struct, eqImg_v h h']; rfl
theorem neqlInode (i j : Ino) (w : World) : (binOp .neq 24 (inoV i) (inoV j)).run Tryd.prog w = .ok (.bool (!inoB i j)) w := by
  unfold inoV
  rw [run_neq_struct]
  have := eqIno_v 9997 i j w
  unfold inoV at this
  rw [this]; rfl
theorem neqlDat (o p : Int) (t u : ByteArray) (w : World) : (binOp .neq 31 (.agg #[.int .i64 o, .string t]) (.agg #[.int .i64 p, .string u])).run Tryd.prog w = .ok (.bool (!(o == p && t.toList == u.toList))) w := by
  rw [run_neq_struct, eqDat_v 9998 o p t u w]; rfl
theorem neqlDir (h : IsImg cs m) (h' : IsImg ds k) {e : Nat} (hd : e < 3) (w : World) : (binOp .neq 28 (.agg ((cs.extract 40 (40 + 36)).extract (e * 12) (e * 12 + 12))) (.agg ((ds.extract 40 (40 + 36)).extract (e * 12) (e * 12 + 12)))).run Tryd.prog w = .ok (.bool (!Img.sameDir m k e)) w := by
  rw [run_neq_struct, eqDir_v h h' 9997 e hd w]; rfl
end
end Go.Proofs.YtlbgkpibaahgladDoor
