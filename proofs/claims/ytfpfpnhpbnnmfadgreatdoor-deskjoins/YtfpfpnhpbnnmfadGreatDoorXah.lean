/-
  '==' of images, inodes, directories and data, whatever it answers.
-/
import Derived.Test.YtfpfpnhpbnnmfadGreatDoorXag
import Derived.WalkKit
import Derived.Test.YtfpfpnhpbnnmfadGreatDoorXaa
namespace Go.Proofs.YtfpfpnhpbnnmfadGreatDoor
open Go.RowKit
section
variable {P : Program}
def EqV (P : Program) (dd : Nat) (t : TypeId) (x y : Value) (v : Bool) : Prop := ∀ w, (Op.equalIn dd t x y).run P w = .ok v w
theorem eqItems_v (dd : Nat) (e : TypeId) (c : Nat) (xs ys : Array Value) (f : Nat → Bool) : ∀ is : List Nat, (∀ i ∈ is, ∃ a b, (∀ w, (part e xs (i * c)).run P w = .ok a w) ∧ (∀ w, (part e ys (i * c)).run P w = .ok b w) ∧ EqV P dd e a b (f i)) → ∀ w, (Op.eqItems dd e c xs ys is).run P w = .ok (is.all f) w
  | [], _, w => by simp [Op.eqItems]
  | i :: is, h, w => by
    obtain ⟨a, b, h1, h2, h3⟩ := h i (by simp)
    have ih := eqItems_v dd e c xs ys f is (fun j hj => h j (by simp [hj])) w
    simp only [Op.eqItems, Sem.run_bind, h1, h2, h3 w, Result.andThen_ok, List.all_cons]
    cases f i
    · simp
    · simpa using ih
theorem eqFields_v (dd : Nat) (xs ys : Array Value) (g : Nat → Bool) : ∀ fs : List Field, (∀ f ∈ fs, f.name ≠ "_" ∧ ∃ a b, (∀ w, (part f.type xs f.offset).run P w = .ok a w) ∧ (∀ w, (part f.type ys f.offset).run P w = .ok b w) ∧ EqV P dd f.type a b (g f.offset)) → ∀ w, (Op.eqFields dd xs ys fs).run P w = .ok (fs.all fun f => g f.offset) w
  | [], _, w => by simp [Op.eqFields]
  | f :: fs, h, w => by
    obtain ⟨hn, a, b, h1, h2, h3⟩ := h f (by simp)
    have ih := eqFields_v dd xs ys g fs (fun j hj => h j (by simp [hj])) w
    simp only [Op.eqFields, hn, ne_eq, not_false_eq_true, if_true, Sem.run_bind, h1, h2, h3 w, Result.andThen_ok, List.all_cons]
    cases g f.offset
    · simp
    · simpa using ih
end
namespace Img
def sameIno (a b : Img) (n : Nat) : Bool := a.live n == b.live n && a.stamp n == b.stamp n && a.links n == b.links n && a.part n 0 == b.part n 0 && a.part n 1 == b.part n 1
def sameDat (a b : Img) (x : Nat) : Bool := a.of x == b.of x && (a.text x).toList == (b.text x).toList
def sameDir (a b : Img) (d : Nat) : Bool := (List.range 4).all fun s => sameEnt a b d s
def sameImg (a b : Img) : Bool := ((List.range 8).all fun n => sameIno a b n) && ((List.range 3).all fun d => sameDir a b d) && ((List.range 9).all fun x => sameDat a b x)
theorem same_iff {a b : Img} : sameImg a b = true ↔ Agree a b := by
  unfold sameImg sameDir sameIno sameDat sameEnt
  simp only [Bool.and_eq_true, List.all_eq_true, List.mem_range, beq_iff_eq]
  constructor
  · rintro ⟨⟨h1, h2⟩, h3⟩
    refine ⟨fun n hn => (h1 n hn).1.1.1.1, fun n hn => (h1 n hn).1.1.1.2, fun n hn => (h1 n hn).1.1.2, fun n p hn hp => ?_, fun d s hd hs => bytes_ext (h2 d hd s hs).1.1, fun d s hd hs => (h2 d hd s hs).1.2, fun d s hd hs => (h2 d hd s hs).2, fun x hx => (h3 x hx).1, fun x hx => bytes_ext (h3 x hx).2⟩
    match p, hp with
    | 0, _ => exact (h1 n hn).1.2
    | 1, _ => exact (h1 n hn).2
  · intro h
    exact ⟨⟨fun n hn => ⟨⟨⟨⟨h.live n hn, h.stamp n hn⟩, h.links n hn⟩, h.part n 0 hn (by omega)⟩, h.part n 1 hn (by omega)⟩, fun d hd s hs => ⟨⟨by rw [h.name d s hd hs], h.ino d s hd hs⟩, h.est d s hd hs⟩⟩, fun x hx => ⟨h.of x hx, by rw [h.text x hx]⟩⟩
end Img
theorem eqParts_v (d : Nat) (a b c e : Int) (w : World) : (Op.equalIn (d + 2) 66 (.agg #[.int .i64 a, .int .i64 b]) (.agg #[.int .i64 c, .int .i64 e])).run Tryz.prog w = .ok (a == c && b == e) w := by
  have u3 := Tryz.underlying3
  have a3 := Tryz.isAgg3
  have z3 := Tryz.sizeOf3
  rw [show d + 2 = (d + 1) + 1 from rfl, Op.equalIn]
  simp only [Sem.run_bind, run_underlying Tryz.underlying66, Result.andThen_ok]
  simp only [Std.Legacy.Range.forIn_eq_forIn_range', Std.Legacy.Range.size, Nat.sub_zero, Nat.add_sub_cancel, Nat.div_one, List.range'_succ, List.range'_zero, List.forIn_cons, List.forIn_nil]
  cases h1 : a == c <;> cases h2 : b == e <;> (go_simp; try simp_all)
def inoB (i j : Ino) : Bool := i.live == j.live && i.stamp == j.stamp && i.links == j.links && i.p0 == j.p0 && i.p1 == j.p1
set_option maxHeartbeats 1000000 in
theorem eqIno_v (d : Nat) (i j : Ino) : EqV Tryz.prog (d + 3) 68 (inoV i) (inoV j) (inoB i j) := by
  intro w
  have u1 := Tryz.underlying3
  have u2 := Tryz.underlying4
  have q := eqParts_v d
  unfold inoV inoB
  rw [show d + 3 = (d + 2) + 1 from rfl]
  go_simp
  cases h1 : i.live == j.live <;> cases h2 : i.stamp == j.stamp <;> cases h3 : i.links == j.links <;> cases h4 : i.p0 == j.p0 <;> cases h5 : i.p1 == j.p1 <;> simp_all
theorem eqEnt_v (d : Nat) (e f : Ent) : EqV Tryz.prog (d + 2) 71 (entV e) (entV f) (e.name.toList == f.name.toList && e.ino == f.ino && e.est == f.est) := by
  intro w
  have u1 := Tryz.underlying3
  have u2 := Tryz.underlying9
  unfold entV
  rw [show d + 2 = (d + 1) + 1 from rfl]
  go_simp
  cases h1 : e.name.toList == f.name.toList <;> cases h2 : e.ino == f.ino <;> cases h3 : e.est == f.est <;> simp_all
theorem eqDat_v (d : Nat) (o p : Int) (t u : ByteArray) : EqV Tryz.prog (d + 2) 75 (.agg #[.int .i64 o, .string t]) (.agg #[.int .i64 p, .string u]) (o == p && t.toList == u.toList) := by
  intro w
  have u1 := Tryz.underlying3
  have u2 := Tryz.underlying9
  rw [show d + 2 = (d + 1) + 1 from rfl]
  go_simp
  cases h1 : o == p <;> cases h2 : t.toList == u.toList <;> simp_all
section
variable {cs ds : Array Value} {m k : Img}
theorem cutIno (h : IsImg cs m) {n : Nat} (hn : n < 8) : (cs.extract 0 (0 + 40)).extract (n * 5) (n * 5 + 5) = #[.bool (m.live n), .int .i64 (m.stamp n), .int .i64 (m.links n), .int .i64 (m.part n 0), .int .i64 (m.part n 1)] :=
  cut5 (ext_at (by omega) (by rw [Nat.zero_add]; exact h.live n hn)) (ext_at (by omega) (by rw [Nat.zero_add]; exact h.stamp n hn)) (ext_at (by omega) (by rw [Nat.zero_add]; exact h.links n hn)) (ext_at (by omega) (by rw [Nat.zero_add]; exact h.part n 0 hn (by omega))) (ext_at (by omega) (by rw [Nat.zero_add]; exact h.part n 1 hn (by omega)))
theorem eqInos_v (h : IsImg cs m) (h' : IsImg ds k) (d : Nat) : EqV Tryz.prog (d + 4) 69 (.agg (cs.extract 0 (0 + 40))) (.agg (ds.extract 0 (0 + 40))) ((List.range 8).all fun n => Img.sameIno m k n) := by
  intro w
  obtain ⟨i, hi⟩ := info_ino
  rw [show d + 4 = (d + 3) + 1 from rfl, run_equalIn_array w (d + 3) _ _ Tryz.underlying69 hi, cells_ino]
  refine eqItems_v _ _ _ _ _ _ _ (fun n hn => ?_) w
  have hn8 : n < 8 := List.mem_range.1 hn
  refine ⟨_, _, part_inode _ _, part_inode _ _, ?_⟩
  rw [cutIno h hn8, cutIno h' hn8]
  exact eqIno_v d (m.inode n) (k.inode n)
theorem cutEnt (h : IsImg cs m) {e s : Nat} (hd : e < 3) (hs4 : s < 4) : ((cs.extract 40 (40 + 36)).extract (e * 12) (e * 12 + 12)).extract (s * 3) (s * 3 + 3) = #[.string (m.name e s), .int .i64 (m.ino e s), .int .i64 (m.est e s)] :=
  cut3 (ext_at (by omega) (ext_at (by omega) (by rw [← Nat.add_assoc]; exact h.name e s hd hs4))) (ext_at (by omega) (ext_at (by omega) (by rw [← Nat.add_assoc, ← Nat.add_assoc]; exact h.ino e s hd hs4))) (ext_at (by omega) (ext_at (by omega) (by rw [← Nat.add_assoc, ← Nat.add_assoc]; exact h.est e s hd hs4)))
theorem eqDir_v (h : IsImg cs m) (h' : IsImg ds k) (d e : Nat) (hd : e < 3) : EqV Tryz.prog (d + 3) 72 (.agg ((cs.extract 40 (40 + 36)).extract (e * 12) (e * 12 + 12))) (.agg ((ds.extract 40 (40 + 36)).extract (e * 12) (e * 12 + 12))) (Img.sameDir m k e) := by
  intro w
  obtain ⟨i, hi⟩ := info_ent
  rw [show d + 3 = (d + 2) + 1 from rfl, run_equalIn_array w (d + 2) _ _ Tryz.underlying72 hi, cells_ent]
  refine eqItems_v _ _ _ _ _ _ _ (fun s hs => ?_) w
  have hs4 : s < 4 := List.mem_range.1 hs
  refine ⟨_, _, part_entry _ _, part_entry _ _, ?_⟩
  rw [cutEnt h hd hs4, cutEnt h' hd hs4]
  exact eqEnt_v d (m.entry e s) (k.entry e s)
theorem eqDirs_v (h : IsImg cs m) (h' : IsImg ds k) (d : Nat) : EqV Tryz.prog (d + 4) 73 (.agg (cs.extract 40 (40 + 36))) (.agg (ds.extract 40 (40 + 36))) ((List.range 3).all fun e => Img.sameDir m k e) := by
  intro w
  obtain ⟨i, hi⟩ := info_dir
  rw [show d + 4 = (d + 3) + 1 from rfl, run_equalIn_array w (d + 3) _ _ Tryz.underlying73 hi, cells_dir]
  refine eqItems_v _ _ _ _ _ _ _ (fun e he => ?_) w
  exact ⟨_, _, part_dir _ _, part_dir _ _, eqDir_v h h' d e (List.mem_range.1 he)⟩
theorem cutDat (h : IsImg cs m) {x : Nat} (hx9 : x < 9) : (cs.extract 76 (76 + 18)).extract (x * 2) (x * 2 + 2) = #[.int .i64 (m.of x), .string (m.text x)] :=
  cut2 (ext_at (by omega) (h.of x hx9)) (ext_at (by omega) (by rw [← Nat.add_assoc]; exact h.text x hx9))
theorem eqDatas_v (h : IsImg cs m) (h' : IsImg ds k) (d : Nat) : EqV Tryz.prog (d + 4) 76 (.agg (cs.extract 76 (76 + 18))) (.agg (ds.extract 76 (76 + 18))) ((List.range 9).all fun x => Img.sameDat m k x) := by
  intro w
  obtain ⟨i, hi⟩ := info_dat
  rw [show d + 4 = (d + 3) + 1 from rfl, run_equalIn_array w (d + 3) _ _ Tryz.underlying76 hi, cells_dat]
  refine eqItems_v _ _ _ _ _ _ _ (fun x hx => ?_) w
  have hx9 : x < 9 := List.mem_range.1 hx
  refine ⟨_, _, part_data _ _, part_data _ _, ?_⟩
  rw [cutDat h hx9, cutDat h' hx9]
  exact eqDat_v (d + 1) _ _ _ _
def partB (m k : Img) (o : Nat) : Bool := if o = 0 then (List.range 8).all fun n => Img.sameIno m k n else if o = 40 then (List.range 3).all fun d => Img.sameDir m k d else (List.range 9).all fun x => Img.sameDat m k x
theorem img_all (m k : Img) : ((Tryz.prog.fieldsOf 78).toList.all fun f => partB m k f.offset) = Img.sameImg m k := by
  have e : ((Tryz.prog.fieldsOf 78).toList.all fun f => partB m k f.offset) = (((Tryz.prog.fieldsOf 78).toList.map fieldT).all fun p => partB m k p.2.2) := by
    rw [List.all_map]; rfl
  rw [e, img_fields]
  simp [partB, Img.sameImg, Bool.and_assoc]
theorem eqImg_v (h : IsImg cs m) (h' : IsImg ds k) (w : World) : (Op.equalIn 10000 78 (.agg cs) (.agg ds)).run Tryz.prog w = .ok (Img.sameImg m k) w := by
  rw [show (10000 : Nat) = 9999 + 1 from rfl, run_equalIn_struct w 9999 78 cs ds img_under img_stood, ← img_all]
  refine eqFields_v _ _ _ (partB m k) _ (fun f hf => ?_) w
  have hm := List.mem_map_of_mem (f := fieldT) hf
  rw [img_fields] at hm
  simp only [List.mem_cons, List.not_mem_nil, or_false, fieldT, Prod.mk.injEq, bne_iff_ne] at hm
  rcases hm with ⟨a1, a2, a3⟩ | ⟨a1, a2, a3⟩ | ⟨a1, a2, a3⟩
  · exact ⟨a1, _, _, by rw [a2, a3]; exact part_inodes _ _, by rw [a2, a3]; exact part_inodes _ _, by rw [a2, a3]; exact eqInos_v h h' 9995⟩
  · exact ⟨a1, _, _, by rw [a2, a3]; exact part_dirs _ _, by rw [a2, a3]; exact part_dirs _ _, by rw [a2, a3]; exact eqDirs_v h h' 9995⟩
  · exact ⟨a1, _, _, by rw [a2, a3]; exact part_datas _ _, by rw [a2, a3]; exact part_datas _ _, by rw [a2, a3]; exact eqDatas_v h h' 9995⟩
theorem eqlImg (h : IsImg cs m) (h' : IsImg ds k) (w : World) : (binOp .eql 78 (.agg cs) (.agg ds)).run Tryz.prog w = .ok (.bool (Img.sameImg m k)) w := by
  rw [run_eql_struct, eqImg_v h h']; rfl
theorem neqlInode (i j : Ino) (w : World) : (binOp .neq 68 (inoV i) (inoV j)).run Tryz.prog w = .ok (.bool (!inoB i j)) w := by
  unfold inoV
  rw [run_neq_struct]
  have := eqIno_v 9997 i j w
  unfold inoV at this
  rw [this]; rfl
theorem neqlDat (o p : Int) (t u : ByteArray) (w : World) : (binOp .neq 75 (.agg #[.int .i64 o, .string t]) (.agg #[.int .i64 p, .string u])).run Tryz.prog w = .ok (.bool (!(o == p && t.toList == u.toList))) w := by
  rw [run_neq_struct, eqDat_v 9998 o p t u w]; rfl
theorem neqlDir (h : IsImg cs m) (h' : IsImg ds k) {e : Nat} (hd : e < 3) (w : World) : (binOp .neq 72 (.agg ((cs.extract 40 (40 + 36)).extract (e * 12) (e * 12 + 12))) (.agg ((ds.extract 40 (40 + 36)).extract (e * 12) (e * 12 + 12)))).run Tryz.prog w = .ok (.bool (!Img.sameDir m k e)) w := by
  rw [run_neq_struct, eqDir_v h h' 9997 e hd w]; rfl
end
end Go.Proofs.YtfpfpnhpbnnmfadGreatDoor
namespace Go.Proofs.YtfpfpnhpbnnmfadGreatDoor
namespace Img
/-- a Write of each block, from the last one to the first one: those below b -/
def down (now disk : Img) : Nat → Img
  | 0 => disk
  | b + 1 => down now (write now disk (b : Int)) b
/-- as long as it is not clean, f times at most: how often, and what lies there then -/
def syn (now : Img) : Nat → Img → Nat × Img
  | 0, disk => (0, disk)
  | f + 1, disk => if sameImg now disk = true then (0, disk) else ((syn now f (down now disk 14)).1 + 1, (syn now f (down now disk 14)).2)
theorem syn_step {now disk : Img} {f : Nat} (h : sameImg now disk = false) : syn now (f + 1) disk = ((syn now f (down now disk 14)).1 + 1, (syn now f (down now disk 14)).2) := by
  show (if sameImg now disk = true then _ else _) = _
  rw [if_neg (by rw [h]; simp)]
theorem syn_stop {now disk : Img} {f : Nat} (h : sameImg now disk = true) : syn now f disk = (0, disk) := by
  cases f
  · rfl
  · show (if sameImg now disk = true then _ else _) = _
    rw [if_pos h]
def freeIno (now disk : Img) : Int := firstI (fun n => !now.live n && (disk.refs (n : Int) == 0)) 8
def freeSlot (now disk : Img) (d : Int) : Int := if 0 ≤ d ∧ d < 3 then firstI (fun s => !now.named d.toNat s && !disk.named d.toNat s) 4 else -1
def freeData (now disk : Img) : Int := firstI (fun x => !now.holds (x : Int) && !disk.holds (x : Int)) 9
def dirty (now disk : Img) (b : Int) : Bool :=
  if inB b = false then false
  else if b < 2 then !(List.range 4).all fun j => sameIno now disk (b.toNat * 4 + j)
  else if b < 5 then !sameDir now disk (b.toNat - 2)
  else !sameDat now disk (b.toNat - 5)
theorem dirty_out {now disk : Img} {b : Int} (h : inB b = false) : dirty now disk b = false := if_pos h
theorem dirty_ino {now disk : Img} {k : Nat} (h : k < 2) : dirty now disk (k : Int) = !(List.range 4).all fun j => sameIno now disk (k * 4 + j) := by
  have e : inB (k : Int) = true := by simp [inB]; omega
  unfold dirty
  rw [e, if_neg (by simp), if_pos (by omega), Int.toNat_natCast]
theorem dirty_dir {now disk : Img} {d : Nat} (h : d < 3) : dirty now disk ((d + 2 : Nat) : Int) = !sameDir now disk d := by
  have e : inB ((d + 2 : Nat) : Int) = true := by simp [inB]; omega
  unfold dirty
  rw [e, if_neg (by simp), if_neg (by omega), if_pos (by omega), Int.toNat_natCast]; rfl
theorem dirty_data {now disk : Img} {x : Nat} (h : x < 9) : dirty now disk ((x + 5 : Nat) : Int) = !sameDat now disk x := by
  have e : inB ((x + 5 : Nat) : Int) = true := by simp [inB]; omega
  unfold dirty
  rw [e, if_neg (by simp), if_neg (by omega), if_neg (by omega), Int.toNat_natCast]; rfl
/-! what first answers -/
end Img
end Go.Proofs.YtfpfpnhpbnnmfadGreatDoor
namespace Go.Proofs.YtfpfpnhpbnnmfadGreatDoor
namespace Idl
def lt (a b : ByteArray) : Bool := Op.bytesLess a.toList b.toList
theorem bl_irrefl : ∀ l : List UInt8, Op.bytesLess l l = false
  | [] => rfl
  | a :: l => by simp [Op.bytesLess, bl_irrefl l]
theorem bl_trans : ∀ {a b c : List UInt8}, Op.bytesLess a b = true → Op.bytesLess b c = true → Op.bytesLess a c = true
  | _, _, [], _, h2 => by simp [Op.bytesLess] at h2
  | _, [], _ :: _, h1, _ => by simp [Op.bytesLess] at h1
  | [], _ :: _, _ :: _, _, _ => by simp [Op.bytesLess]
  | x :: a, y :: b, z :: c, h1, h2 => by
    simp only [Op.bytesLess, Bool.or_eq_true, decide_eq_true_eq, Bool.and_eq_true, beq_iff_eq] at h1 h2 ⊢
    rcases h1 with h1 | ⟨rfl, h1⟩ <;> rcases h2 with h2 | ⟨rfl, h2⟩
    · exact .inl (UInt8.lt_trans h1 h2)
    · exact .inl h1
    · exact .inl h2
    · exact .inr ⟨rfl, bl_trans h1 h2⟩
theorem bl_tri : ∀ {a b : List UInt8}, Op.bytesLess a b = false → Op.bytesLess b a = false → a = b
  | [], [], _, _ => rfl
  | [], _ :: _, h1, _ => by simp [Op.bytesLess] at h1
  | _ :: _, [], _, h2 => by simp [Op.bytesLess] at h2
  | x :: a, y :: b, h1, h2 => by
    simp only [Op.bytesLess, Bool.or_eq_false_iff, decide_eq_false_iff_not, Bool.and_eq_false_iff, beq_eq_false_iff_ne] at h1 h2
    have e : x = y := by
      have n1 := h1.1
      have n2 := h2.1
      rw [UInt8.lt_iff_toNat_lt] at n1 n2
      exact UInt8.toNat_inj.1 (by omega)
    subst e
    have e2 : a = b := bl_tri (by rcases h1.2 with h | h; exact absurd rfl h; exact h) (by rcases h2.2 with h | h; exact absurd rfl h; exact h)
    rw [e2]
theorem toList_inj {a b : ByteArray} (h : a.toList = b.toList) : a = b := by
  rw [ByteArray.toList_eq, ByteArray.toList_eq] at h
  cases a; cases b
  simp at h
  rw [h]
theorem lt_irrefl (a : ByteArray) : lt a a = false := bl_irrefl _
theorem lt_trans {a b c : ByteArray} (h1 : lt a b = true) (h2 : lt b c = true) : lt a c = true := bl_trans h1 h2
theorem lt_tri {a b : ByteArray} (h1 : lt a b = false) (h2 : lt b a = false) : a = b := toList_inj (bl_tri h1 h2)
theorem lt_asymm {a b : ByteArray} (h : lt a b = true) : lt b a = false := by
  cases h2 : lt b a with
  | false => rfl
  | true => have := lt_trans h h2; rw [lt_irrefl] at this; cases this
end Idl
end Go.Proofs.YtfpfpnhpbnnmfadGreatDoor
namespace Go.Proofs.YtfpfpnhpbnnmfadGreatDoor
namespace Idl
structure Stp where
  kind : Int
  dir : Int
  toDir : Int
  p : Int
  name : ByteArray
  to : ByteArray
  text : ByteArray
def none0 : ByteArray := ⟨#[]⟩
def isD (d : Int) : Bool := decide (0 ≤ d) && decide (d < 3)
def spot (d : Int) (s : ByteArray) : Int := if isD d = false then 1 else if Img.isNmB s.toList = false then 2 else 0
def chk (x : Stp) : Int :=
  if x.kind < 1 ∨ 6 < x.kind then 7 else
  if spot x.dir x.name ≠ 0 then spot x.dir x.name else
  if x.kind = 2 ∨ x.kind = 4 then spot x.toDir x.to else
  if (x.kind = 5 ∨ x.kind = 6) ∧ (x.p < 0 ∨ 2 ≤ x.p) then 1 else
  if x.kind = 5 ∧ 8 < x.text.size then 3 else 0
def cut (d : Int) (s : ByteArray) (p : Int) : Stp := ⟨6, d, 0, p, s, none0, none0⟩
theorem spot_zero {d : Int} {s : ByteArray} (h : spot d s = 0) : isD d = true ∧ Img.isNmB s.toList = true := by
  unfold spot at h
  split at h
  · omega
  · split at h
    · omega
    · rename_i h1 h2
      exact ⟨by simpa using h1, by simpa using h2⟩
theorem isD_iff {d : Int} : isD d = true ↔ 0 ≤ d ∧ d < 3 := by simp [isD]
theorem chk_zero {x : Stp} (h : chk x = 0) : 1 ≤ x.kind ∧ x.kind ≤ 6 ∧ spot x.dir x.name = 0 ∧ (x.kind = 2 ∨ x.kind = 4 → spot x.toDir x.to = 0) ∧ (x.kind = 5 ∨ x.kind = 6 → 0 ≤ x.p ∧ x.p < 2) ∧ (x.kind = 5 → x.text.size ≤ 8) := by
  unfold chk at h
  split at h
  · omega
  · split at h
    · contradiction
    · split at h
      · refine ⟨by omega, by omega, by omega, fun _ => h, fun h5 => by omega, fun h5 => by omega⟩
      · split at h
        · omega
        · split at h
          · omega
          · refine ⟨by omega, by omega, by omega, fun h2 => by omega, fun h5 => by omega, fun h5 => by omega⟩
end Idl
end Go.Proofs.YtfpfpnhpbnnmfadGreatDoor
