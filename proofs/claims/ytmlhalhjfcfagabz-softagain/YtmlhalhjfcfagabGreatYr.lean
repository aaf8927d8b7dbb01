/-
  The reference's NewBed, with the row that it lays.
-/
import Derived.Test.YtmlhalhjfcfagabGreatYo
import Derived.Test.YtmlhalhjfcfagabGreatYd
import Derived.Test.YtmlhalhjfcfagabGreatYl
import Derived.Test.YtmlhalhjfcfagabGreatYm
import Derived.Test.YtmlhalhjfcfagabGreatWh
import Derived.Test.YtmlhalhjfcfagabGreatYk
namespace Go.Proofs.YtmlhalhjfcfagabGreat
open Go.RowKit
open Idl (Stp chk stpA)
namespace Sft
set_option maxHeartbeats 1000000 in
set_option maxRecDepth 100000 in
theorem newBed_row (w : World) : Calls Tryz.prog 13 #[] w fun e w' => ∃ g, e = .returned (.pointer (some ⟨g, 0, none⟩)) ∧ w.heap.size ≤ g ∧ w'.heap[g]? = some (.cells (blankCells ++ (blankCells ++ bedTail)) 48) ∧ Below w.heap.size w w' := by
  have hz := size_blank
  go_enter Tryz.func13, Tryz.ntmps13
  go_wp2_with fail
  refine (blank_any w).mono ?_
  rintro e w1 ⟨rfl, b1⟩
  have B1 := hide b1
  clear b1
  go_wp2_with fail
  refine (blank_any w1).mono ?_
  rintro e w2 ⟨rfl, b2⟩
  have B2 := hide ((unhide B1).trans (b2.mono (unhide B1).size))
  clear b2
  go_wp2_with (refine wpList_build_two rfl 48 _ _ rfl blankCells blankCells (blankCells ++ (blankCells ++ bedTail)) rfl rfl (built_bed hz hz) ?_)
  go_ret
  exact ⟨_, rfl, (unhide B2).size, heap_alloc_last _ _, (unhide B2).alloc (unhide B2).size _⟩
theorem bed_of {W : World} {g : Nat} (h : W.heap[g]? = some (.cells (blankCells ++ (blankCells ++ bedTail)) 48)) : IsBed W g := ⟨_, _, _, _, _, blank_is, blank_is, h⟩
end Sft
/-- what any step leaves of what is to be, of the disk and of the last Stamp -/
def Img.anow (m k : Img) (last : Int) (x : Stp) : Img := if x.kind = 7 ∨ x.kind = 8 ∨ x.kind = 9 then m else Img.sstep m k last x
def Img.alast (m k : Img) (last : Int) (x : Stp) : Int := if x.kind = 7 ∨ x.kind = 8 ∨ x.kind = 9 then last else Img.slast m k last x
def Img.adisk (m k : Img) (x : Stp) : Img := if x.kind = 7 ∨ x.kind = 8 ∨ x.kind = 9 then Img.sdisk m k x else k
section
variable {w W W' : World} {bf bc gb : Nat} {m k : Img} {last : Int}
/-- softStep beside a bed where nothing lies -/
theorem softStep_any (h : Fo w bf bc m k last W) (hb : W.heap[gb]? = some (.cells (blankCells ++ (blankCells ++ Sft.bedTail)) 48)) (b0 : w.heap.size ≤ gb) (nf : gb ≠ bf) (nc : gb ≠ bc) (hG : Img.Good m last) (hla : last < 4611686018427387904) (x : Stp) (hn : x.name.size ≤ maxLen) (ht : x.to.size ≤ maxLen) (hx : x.text.size ≤ maxLen) :
    Calls Tryz.prog 17 #[.pointer (some ⟨bf, 0, none⟩), .pointer (some ⟨gb, 0, none⟩), .agg (stpA x)] W fun e w' => (∃ v, e = .returned (.bool v)) ∧ Fo w bf bc (Img.anow m k last x) (Img.adisk m k x) (Img.alast m k last x) w' := by
  have hF : Fb w bf bc gb m k last W := ⟨h, Sft.bed_of hb, b0, nf, nc⟩
  unfold Img.anow Img.adisk Img.alast
  by_cases hk : x.kind = 7 ∨ x.kind = 8 ∨ x.kind = 9
  · rw [if_pos hk, if_pos hk, if_pos hk]
    refine (softStep_none hF x hk).mono ?_
    rintro e w' ⟨hv, h', _, _⟩
    exact ⟨hv, h'.fo⟩
  · rw [if_neg hk, if_neg hk, if_neg hk]
    exact softStep_file hF hb hG hla x hn ht hx (by omega)
end
end Go.Proofs.YtmlhalhjfcfagabGreat
namespace Go.Proofs.YtmlhalhjfcfagabGreat
open Go.RowKit
open Idl (Stp chk stpA)
namespace Sft
theorem Steps.gen {w : World} {v : Value} {L : List Stp} (hs : Idl.Steps w v L) : ∃ a c, v = .slice a L.length c ∧ ∀ i (hi : i < L.length), ∃ g o, a = some ⟨g, o, none⟩ ∧ g < w.heap.size ∧ ∀ W, Below w.heap.size w W → ∀ j u, (stpA L[i])[j]? = some u → W.cell? ⟨g, o + i * 7 + j, none⟩ = some u := by
  rcases hs.form with ⟨rfl, a, c, rfl⟩ | ⟨g, o, c, rfl, hg, hc⟩
  · exact ⟨a, c, rfl, fun i hi => by cases hi⟩
  · exact ⟨_, c, rfl, fun i hi => ⟨g, o, rfl, hg, fun W hb j u hu => by rw [hb.cell (p := ⟨g, o + i * 7 + j, none⟩) hg]; exact hc i hi j u hu⟩⟩
/-- what the law keeps from round to round -/
structure Keeps (m k : Img) (last : Int) (n : Nat) : Prop where
  good : Img.Good m last
  lies : Img.Lies m k
  few : last ≤ n
theorem blank_empties : Img.Empties blankI := fun _ _ hd hs h => Img.empty_unnamed good0.ex.ok hd hs h
theorem blank_slotty : Img.Slotty blankI blankI := fun _ _ _ _ _ _ => rfl
theorem Keeps.start : Keeps blankI blankI 0 0 := ⟨good0, ⟨blank_slotty, blank_empties⟩, Int.le_refl _⟩
section
variable {m k : Img} {last : Int} {n : Nat}
theorem Keeps.mono {n' : Nat} (h : Keeps m k last n) (hn : n ≤ n') : Keeps m k last n' := ⟨h.good, h.lies, by have := h.few; omega⟩
theorem Keeps.disk (h : Keeps m k last n) (x : Stp) : Keeps m (Img.sdisk m k x) last n := ⟨h.good, h.lies.sdisk h.good.ex.ok x, h.few⟩
theorem Keeps.syn (h : Keeps m k last n) : Keeps m (Img.syn m 8 k).2 last n := ⟨h.good, h.lies.syn h.good.ex.ok 8, h.few⟩
theorem Keeps.step (h : Keeps m k last n) (x : Stp) : Keeps (Img.sstep m k last x) k (Img.slast m k last x) (n + 1) :=
  ⟨Img.good_step h.good x, h.lies.step h.good x, by have := Img.slast_le (now := m) (disk := k) (last := last) x; have := h.few; omega⟩
theorem Keeps.exact (h : Keeps m k last n) : m.exact = true := Img.ex_iff.2 h.good.ex
theorem Keeps.room (h : Keeps m k last n) {x : Stp} (hc : Img.scode m (Img.syn m 8 k).2 x = 6) : Img.room m x = false := Img.full_room h.good.ex.ok (h.lies.clean h.good.ex) hc
end
theorem HasAt.img {w : World} {b : Nat} {m : Img} (h : HasAt w b 0 m) : HasImg w b m :=
  ⟨h.lt, fun n h1 => by have := h.live n h1; rwa [Nat.zero_add] at this, fun n h1 => by have := h.stamp n h1; rwa [Nat.zero_add] at this, fun n h1 => by have := h.links n h1; rwa [Nat.zero_add] at this,
    fun n p h1 h2 => by have := h.part n p h1 h2; rwa [Nat.zero_add] at this, fun d s h1 h2 => by have := h.name d s h1 h2; rwa [Nat.zero_add] at this, fun d s h1 h2 => by have := h.ino d s h1 h2; rwa [Nat.zero_add] at this,
    fun d s h1 h2 => by have := h.est d s h1 h2; rwa [Nat.zero_add] at this, fun x h1 => by have := h.of x h1; rwa [Nat.zero_add] at this, fun x h1 => by have := h.text x h1; rwa [Nat.zero_add] at this, h.small, h.short⟩
def stepZ : Array Value := #[.int .i64 0, .int .i64 0, .int .i64 0, .int .i64 0, .string ⟨#[]⟩, .string ⟨#[]⟩, .string ⟨#[]⟩]
theorem step_info (x : Stp) : (Tryz.prog.info? 37).map (·.size) = some (stpA x).size := by kernel_rfl
theorem step_all (x : Stp) : (stpA x).all (·.oneCell') = true := by kernel_rfl
theorem row_all {cs : Array Value} (h : cs.size = 94) : cs.extract 0 (0 + 94) = cs := by rw [show 0 + 94 = cs.size by omega]; exact Array.extract_size
theorem _root_.Go.Proofs.YtmlhalhjfcfagabGreat.Img.slast_code {m k : Img} {last : Int} {x : Stp} (h : Img.scode m k x ≠ 0) : Img.slast m k last x = last := if_neg (fun z => h z.1)
theorem Op1.neq0 {o : Oper} {ρ : Operand → Value} (x : Operand) (ho : o.op = .binOp .neq 3 x (.const (.int .i64 0)) 3) {v : Int} (hx : ρ x = .int .i64 v) (hy : ρ (.const (.int .i64 0)) = .int .i64 0) (hv : (v != 0) = true) (w : World) : (execOp ρ o).run Tryz.prog w = .ok (.value (.bool true)) w := by
  unfold execOp
  rw [ho]
  go_simp
theorem Op1.eql6 {o : Oper} {ρ : Operand → Value} (x : Operand) (ho : o.op = .binOp .eql 3 x (.const (.int .i64 6)) 3) {v : Int} (hx : ρ x = .int .i64 v) (hy : ρ (.const (.int .i64 6)) = .int .i64 6) (hv : (v == 6) = false) (w : World) : (execOp ρ o).run Tryz.prog w = .ok (.value (.bool false)) w := by
  unfold execOp
  rw [ho]
  go_simp
theorem step_under : Tryz.prog.underlying 37 = some (.struct (Tryz.prog.fieldsOf 37)) := by kernel_rfl
theorem same_self (m : Img) : (!Img.sameImg m m) = false := by rw [Img.same_iff.2 (Img.Agree.refl m)]; rfl
end Sft
end Go.Proofs.YtmlhalhjfcfagabGreat
namespace Go.Proofs.YtmlhalhjfcfagabGreat
open Go.RowKit
open Idl (Stp chk stpA)
namespace Sft
theorem Op1.ld_bool {o : Oper} {ρ : Operand → Value} (x : Operand) (ho : o.op = .load 4 x) {g o0 : Nat} (hx : ρ x = .pointer (some ⟨g, o0, none⟩)) {v : Bool} (w : World) (h : w.cell? ⟨g, o0, none⟩ = some (.bool v)) : (execOp ρ o).run Tryz.prog w = .ok (.value (.bool v)) w := by
  unfold execOp
  rw [ho]
  go_simp
theorem Op1.lss0f {o : Oper} {ρ : Operand → Value} (x : Operand) (ho : o.op = .binOp .lss 3 x (.const (.int .i64 0)) 3) {v : Int} (hx : ρ x = .int .i64 v) (hy : ρ (.const (.int .i64 0)) = .int .i64 0) (hv : decide (v < 0) = false) (w : World) : (execOp ρ o).run Tryz.prog w = .ok (.value (.bool false)) w := by
  unfold execOp
  rw [ho]
  go_simp
theorem Op1.geq8f {o : Oper} {ρ : Operand → Value} (x : Operand) (ho : o.op = .binOp .geq 3 x (.const (.int .i64 8)) 3) {v : Int} (hx : ρ x = .int .i64 v) (hy : ρ (.const (.int .i64 8)) = .int .i64 8) (hv : decide (8 ≤ v) = false) (w : World) : (execOp ρ o).run Tryz.prog w = .ok (.value (.bool false)) w := by
  unfold execOp
  rw [ho]
  go_simp
theorem Op1.geqf {o : Oper} {ρ : Operand → Value} (x y : Operand) (ho : o.op = .binOp .geq 3 x y 3) {u v : Int} (hx : ρ x = .int .i64 u) (hy : ρ y = .int .i64 v) (hv : decide (v ≤ u) = false) (w : World) : (execOp ρ o).run Tryz.prog w = .ok (.value (.bool false)) w := by
  unfold execOp
  rw [ho]
  go_simp
theorem Op1.ix_step {o : Oper} {ρ : Operand → Value} (x y : Operand) (ho : o.op = .indexAddr 35 x y) {g q n c j : Nat} (hx : ρ x = .slice (some ⟨g, q, none⟩) n c) (hy : ρ y = .int .i64 ((j : Nat) : Int)) (hj : j < n) (w : World) : (execOp ρ o).run Tryz.prog w = .ok (.value (.pointer (some ⟨g, q + j * 7, none⟩))) w := by
  have jz : (j : Int) < (n : Int) := by omega
  unfold execOp
  rw [ho]
  go_simp
set_option maxHeartbeats 1000000 in
theorem Op1.ld_step {o : Oper} {ρ : Operand → Value} (x : Operand) (ho : o.op = .load 37 x) {g q : Nat} (hx : ρ x = .pointer (some ⟨g, q, none⟩)) (s : Stp) (w : World) (h : ∀ j u, (stpA s)[j]? = some u → w.cell? ⟨g, q + j, none⟩ = some u) : (execOp ρ o).run Tryz.prog w = .ok (.value (.agg (stpA s))) w := by
  obtain ⟨kind, dir, toDir, p, name, tu, text⟩ := s
  have c0 : w.cell? ⟨g, q, none⟩ = some (.int .i64 kind) := h 0 _ rfl
  have c1 : w.cell? ⟨g, q + 1, none⟩ = some (.int .i64 dir) := h 1 _ rfl
  have c2 : w.cell? ⟨g, q + 2, none⟩ = some (.int .i64 toDir) := h 2 _ rfl
  have c3 : w.cell? ⟨g, q + 3, none⟩ = some (.int .i64 p) := h 3 _ rfl
  have c4 : w.cell? ⟨g, q + 4, none⟩ = some (.string name) := h 4 _ rfl
  have c5 : w.cell? ⟨g, q + 5, none⟩ = some (.string tu) := h 5 _ rfl
  have c6 : w.cell? ⟨g, q + 6, none⟩ = some (.string text) := h 6 _ rfl
  clear h
  simp only [stpA]
  unfold execOp
  rw [ho]
  go_simp
theorem Keeps.any {m k : Img} {last : Int} {n : Nat} (h : Keeps m k last n) (x : Stp) : Keeps (Img.anow m k last x) (Img.adisk m k x) (Img.alast m k last x) (n + 1) := by
  unfold Img.anow Img.adisk Img.alast
  by_cases hk : x.kind = 7 ∨ x.kind = 8 ∨ x.kind = 9
  · rw [if_pos hk, if_pos hk, if_pos hk]; exact (h.disk x).mono (by omega)
  · rw [if_neg hk, if_neg hk, if_neg hk]; exact h.step x
end Sft
end Go.Proofs.YtmlhalhjfcfagabGreat
