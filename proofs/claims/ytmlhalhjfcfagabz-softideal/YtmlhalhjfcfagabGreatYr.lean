/-
  What the laws of layer 5 keep from round to round. (Written by geneb.py.)
-/
import Derived.Test.YtmlhalhjfcfagabGreatYd
import Derived.Test.YtmlhalhjfcfagabGreatYk
import Derived.Test.YtmlhalhjfcfagabGreatYf
import Derived.Test.YtmlhalhjfcfagabGreatYm
import Derived.Test.YtmlhalhjfcfagabGreatWh
namespace Go.Proofs.YtmlhalhjfcfagabGreat
open Go.RowKit
open Idl (Stp chk stpA)
namespace Sft
theorem Steps.gen {w : World} {v : Value} {L : List Stp} (hs : Idl.Steps w v L) : ∃ a c, v = .slice a L.length c ∧ ∀ i (hi : i < L.length), ∃ g o, a = some ⟨g, o, none⟩ ∧ g < w.heap.size ∧ ∀ W, Below w.heap.size w W → ∀ j u, (stpA L[i])[j]? = some u → W.cell? ⟨g, o + i * 7 + j, none⟩ = some u := by
  rcases hs.form with ⟨rfl, a, c, rfl⟩ | ⟨g, o, c, rfl, hg, hc⟩
  · exact ⟨a, c, rfl, fun i hi => by cases hi⟩
  · exact ⟨_, c, rfl, fun i hi => ⟨g, o, rfl, hg, fun W hb j u hu => by rw [hb.cell (p := ⟨g, o + i * 7 + j, none⟩) hg]; exact hc i hi j u hu⟩⟩
/-- what the law keeps from round to round -/
structure Keeps (m k : Img) (last : Int) (n : Nat) : Prop where
  good : Img.Good m last
  lies : Img.Lies m k
  few : last ≤ n
theorem blank_empties : Img.Empties blankI := fun _ _ hd hs h => Img.empty_unnamed good0.ex.ok hd hs h
theorem blank_slotty : Img.Slotty blankI blankI := fun _ _ _ _ _ _ => rfl
theorem Keeps.start : Keeps blankI blankI 0 0 := ⟨good0, ⟨blank_slotty, blank_empties⟩, Int.le_refl _⟩
section
variable {m k : Img} {last : Int} {n : Nat}
theorem Keeps.mono {n' : Nat} (h : Keeps m k last n) (hn : n ≤ n') : Keeps m k last n' := ⟨h.good, h.lies, by have := h.few; omega⟩
theorem Keeps.disk (h : Keeps m k last n) (x : Stp) : Keeps m (Img.sdisk m k x) last n := ⟨h.good, h.lies.sdisk h.good.ex.ok x, h.few⟩
theorem Keeps.syn (h : Keeps m k last n) : Keeps m (Img.syn m 8 k).2 last n := ⟨h.good, h.lies.syn h.good.ex.ok 8, h.few⟩
theorem Keeps.step (h : Keeps m k last n) (x : Stp) : Keeps (Img.sstep m k last x) k (Img.slast m k last x) (n + 1) :=
  ⟨Img.good_step h.good x, h.lies.step h.good x, by have := Img.slast_le (now := m) (disk := k) (last := last) x; have := h.few; omega⟩
theorem Keeps.exact (h : Keeps m k last n) : m.exact = true := Img.ex_iff.2 h.good.ex
theorem Keeps.room (h : Keeps m k last n) {x : Stp} (hc : Img.scode m (Img.syn m 8 k).2 x = 6) : Img.room m x = false := Img.full_room h.good.ex.ok (h.lies.clean h.good.ex) hc
end
theorem HasAt.img {w : World} {b : Nat} {m : Img} (h : HasAt w b 0 m) : HasImg w b m :=
  ⟨h.lt, fun n h1 => by have := h.live n h1; rwa [Nat.zero_add] at this, fun n h1 => by have := h.stamp n h1; rwa [Nat.zero_add] at this, fun n h1 => by have := h.links n h1; rwa [Nat.zero_add] at this,
    fun n p h1 h2 => by have := h.part n p h1 h2; rwa [Nat.zero_add] at this, fun d s h1 h2 => by have := h.name d s h1 h2; rwa [Nat.zero_add] at this, fun d s h1 h2 => by have := h.ino d s h1 h2; rwa [Nat.zero_add] at this,
    fun d s h1 h2 => by have := h.est d s h1 h2; rwa [Nat.zero_add] at this, fun x h1 => by have := h.of x h1; rwa [Nat.zero_add] at this, fun x h1 => by have := h.text x h1; rwa [Nat.zero_add] at this, h.small, h.short⟩
def stepZ : Array Value := #[.int .i64 0, .int .i64 0, .int .i64 0, .int .i64 0, .string ⟨#[]⟩, .string ⟨#[]⟩, .string ⟨#[]⟩]
theorem step_info (x : Stp) : (Tryz.prog.info? 37).map (·.size) = some (stpA x).size := by kernel_rfl
theorem step_all (x : Stp) : (stpA x).all (·.oneCell') = true := by kernel_rfl
theorem row_all {cs : Array Value} (h : cs.size = 94) : cs.extract 0 (0 + 94) = cs := by rw [show 0 + 94 = cs.size by omega]; exact Array.extract_size
theorem _root_.Go.Proofs.YtmlhalhjfcfagabGreat.Img.slast_code {m k : Img} {last : Int} {x : Stp} (h : Img.scode m k x ≠ 0) : Img.slast m k last x = last := if_neg (fun z => h z.1)
theorem Op1.neq0 {o : Oper} {ρ : Operand → Value} (x : Operand) (ho : o.op = .binOp .neq 3 x (.const (.int .i64 0)) 3) {v : Int} (hx : ρ x = .int .i64 v) (hy : ρ (.const (.int .i64 0)) = .int .i64 0) (hv : (v != 0) = true) (w : World) : (execOp ρ o).run Tryz.prog w = .ok (.value (.bool true)) w := by
  unfold execOp
  rw [ho]
  go_simp
theorem Op1.eql6 {o : Oper} {ρ : Operand → Value} (x : Operand) (ho : o.op = .binOp .eql 3 x (.const (.int .i64 6)) 3) {v : Int} (hx : ρ x = .int .i64 v) (hy : ρ (.const (.int .i64 6)) = .int .i64 6) (hv : (v == 6) = false) (w : World) : (execOp ρ o).run Tryz.prog w = .ok (.value (.bool false)) w := by
  unfold execOp
  rw [ho]
  go_simp
theorem step_under : Tryz.prog.underlying 37 = some (.struct (Tryz.prog.fieldsOf 37)) := by kernel_rfl
theorem same_self (m : Img) : (!Img.sameImg m m) = false := by rw [Img.same_iff.2 (Img.Agree.refl m)]; rfl
end Sft
end Go.Proofs.YtmlhalhjfcfagabGreat
namespace Go.Proofs.YtmlhalhjfcfagabGreat
open Go.RowKit
open Idl (Stp chk stpA)
namespace Sft
/-- a name that is listed -/
theorem snames_at {m : Img} (hm : m.check = 0) {d : Nat} (hd : d < 3) {nm : ByteArray} (h : nm ∈ Img.snames m (d : Int)) : ∃ s, s < 4 ∧ m.named d s = true ∧ m.name d s = nm := by
  unfold Img.snames at h
  rw [if_pos (by omega), Int.toNat_natCast] at h
  exact Img.rawN_mem.1 ((sortN_mem (Img.rawN_nodup hm hd (Nat.le_refl 4)) nm).1 h)
theorem snames_len (m : Img) (hm : m.check = 0) {d : Nat} (hd : d < 3) : (Img.snames m (d : Int)).length ≤ 4 := by
  unfold Img.snames
  rw [if_pos (by omega), Int.toNat_natCast, sortN_len (Img.rawN_nodup hm hd (Nat.le_refl 4))]
  exact Img.rawN_len m d 4
theorem snames_find {m : Img} (hm : m.check = 0) {d : Nat} (hd : d < 3) {nm : ByteArray} (h : nm ∈ Img.snames m (d : Int)) : (∃ s : Nat, m.findAt (d : Int) nm.toList = (s : Int)) ∧ Img.isNmB nm.toList = true := by
  obtain ⟨s, hs, hn, rfl⟩ := snames_at hm hd h
  have ok := (Img.slot_ok hn).1 ((Img.well_iff.1 hm).slot d s hd hs)
  refine ⟨⟨s, ?_⟩, ok.nm⟩
  exact Img.find_at hm (d := (d : Int)) (by omega) hs (Img.nm_ne ok.nm) (by rw [Int.toNat_natCast])
theorem snames_sure {m : Img} (hm : m.check = 0) {d : Nat} (hd : d < 3) {nm : ByteArray} (h : nm ∈ Img.snames m (d : Int)) : Img.ssure m m (d : Int) nm = true := by
  obtain ⟨⟨s, e⟩, _⟩ := snames_find hm hd h
  unfold Img.ssure
  rw [e]
  simp [Img.sameEnt]
theorem snames_read {m : Img} (hm : m.check = 0) {d : Nat} (hd : d < 3) {nm : ByteArray} (h : nm ∈ Img.snames m (d : Int)) (p : Nat) (hp : p < 2) : Img.sreadC m (d : Int) nm (p : Int) = 0 := by
  obtain ⟨⟨s, e⟩, hnm⟩ := snames_find hm hd h
  have hi : ¬ Img.inoOf m (d : Int) nm < 0 := by rw [Img.inoOf_neg hm, e]; omega
  have hs : Idl.spot (d : Int) nm = 0 := by
    unfold Idl.spot
    rw [show Idl.isD (d : Int) = true by simp [Idl.isD]; omega, hnm]; rfl
  have hk : Idl.chk (Idl.cut (d : Int) nm (p : Int)) = 0 := by
    unfold Idl.chk Idl.cut
    dsimp only
    rw [if_neg (by omega), hs]
    simp
    omega
  unfold Img.sreadC Img.scheck
  rw [hk]
  simp only [Idl.cut]
  simp [hi]
theorem snames_small {m : Img} (hm : m.check = 0) {d : Nat} (hd : d < 3) {nm : ByteArray} (h : nm ∈ Img.snames m (d : Int)) : nm.size ≤ maxLen := by
  obtain ⟨_, hnm⟩ := snames_find hm hd h
  rw [isNmB_eq] at hnm
  simp at hnm
  unfold maxLen
  omega
end Sft
end Go.Proofs.YtmlhalhjfcfagabGreat
