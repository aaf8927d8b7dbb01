/-
  The walk of the reference's (*Bed).Files0 on a bed where nothing lies. (Written by genee.py.)
-/
import Derived.Test.YtmbpckmpnnmnmacGreatXbg
import Derived.Test.YtmbpckmpnnmnmacGreatXax
import Derived.Test.YtmbpckmpnnmnmacGreatXaw
import Derived.BigQuiet
import Derived.Laws.OwnMore
import Derived.Deep.RegionHeld
import Derived.RegionTactic
import Derived.BigRegion
import Derived.Lib.AppendZerosOnto
namespace Go.Proofs.YtmbpckmpnnmnmacGreat
open Go.RowKit
open Idl (Stp chk stpA)
namespace Sft
end Sft
section
variable {w W : World} {g : Nat}
end
end Go.Proofs.YtmbpckmpnnmnmacGreat
namespace Go.Proofs.YtmbpckmpnnmnmacGreat
open Go.RowKit
open Idl (Stp chk stpA)
section
variable {w W W' : World} {bf bc gb : Nat} {m k : Img} {last : Int}
end
end Go.Proofs.YtmbpckmpnnmnmacGreat
namespace Go.Proofs.YtmbpckmpnnmnmacGreat
namespace Img
open Idl (Stp chk)
variable {now disk : Img} {last : Int}
end Img
end Go.Proofs.YtmbpckmpnnmnmacGreat
namespace Go.Proofs.YtmbpckmpnnmnmacGreat
open Go.RowKit
open Idl (Stp chk stpA)
namespace Sft
set_option maxHeartbeats 1000000 in
set_option maxRecDepth 100000 in
theorem newBed_row (w : World) : Calls Tryz.prog 15 #[] w fun e w' => ∃ g, e = .returned (.pointer (some ⟨g, 0, none⟩)) ∧ w.heap.size ≤ g ∧ w'.heap[g]? = some (.cells (blankCells ++ (blankCells ++ bedTail)) 55) ∧ Below w.heap.size w w' := by
  have hz := size_blank
  go_enter Tryz.func15, Tryz.ntmps15
  go_wp2_with fail
  refine (blank_any w).mono ?_
  rintro e w1 ⟨rfl, b1⟩
  have B1 := hide b1
  clear b1
  go_wp2_with fail
  refine (blank_any w1).mono ?_
  rintro e w2 ⟨rfl, b2⟩
  have B2 := hide ((unhide B1).trans (b2.mono (unhide B1).size))
  clear b2
  go_wp2_with (refine wpList_build_two rfl 55 _ _ rfl blankCells blankCells (blankCells ++ (blankCells ++ bedTail)) rfl rfl (built_bed hz hz) ?_)
  go_ret
  exact ⟨_, rfl, (unhide B2).size, heap_alloc_last _ _, (unhide B2).alloc (unhide B2).size _⟩
end Sft
section
variable {w W W' : World} {bf bc gb : Nat} {m k : Img} {last : Int}
end
end Go.Proofs.YtmbpckmpnnmnmacGreat
namespace Go.Proofs.YtmbpckmpnnmnmacGreat
open Go.RowKit
open Idl (Stp chk stpA)
namespace Sft
theorem snames_len (m : Img) (hm : m.check = 0) {d : Nat} (hd : d < 3) : (Img.snames m (d : Int)).length ≤ 4 := by
  unfold Img.snames
  rw [if_pos (by omega), Int.toNat_natCast, sortN_len (Img.rawN_nodup hm hd (Nat.le_refl 4))]
  exact Img.rawN_len m d 4
end Sft
end Go.Proofs.YtmbpckmpnnmnmacGreat
namespace Go.Proofs.YtmbpckmpnnmnmacGreat
namespace Idl
end Idl
end Go.Proofs.YtmbpckmpnnmnmacGreat
namespace Go.Proofs.YtmbpckmpnnmnmacGreat
open Go.RowKit
namespace Idl
/-- the tags' cells: a row of three a tag; the files': of four a file -/
structure IRd (w : World) (b : Nat) (S : St) (l : List Tg) (ta fa : Option Addr) (tc fc : Nat) : Prop where
  lt : b < w.heap.size
  tv : w.cell? ⟨b, 0, none⟩ = some (.slice ta l.length tc)
  fv : w.cell? ⟨b, 1, none⟩ = some (.slice fa S.next fc)
  few : l.length ≤ 1000000
  many : S.next ≤ 1000000
  tags : ∀ i (h : i < l.length), ∃ g o, ta = some ⟨g, o, none⟩ ∧ g < w.heap.size ∧ w.cell? ⟨g, o + i * 3, none⟩ = some (.int .i64 l[i].dir) ∧ w.cell? ⟨g, o + i * 3 + 1, none⟩ = some (.string l[i].name) ∧ w.cell? ⟨g, o + i * 3 + 2, none⟩ = some (.int .i64 (l[i].file : Nat))
  files : ∀ i, i < S.next → ∃ g o, fa = some ⟨g, o, none⟩ ∧ g < w.heap.size ∧ (∀ p, p < 2 → w.cell? ⟨g, o + i * 4 + p, none⟩ = some (.bool (S.has i p))) ∧ ∀ p, p < 2 → w.cell? ⟨g, o + i * 4 + 2 + p, none⟩ = some (.string (S.txt i p))
end Idl
end Go.Proofs.YtmbpckmpnnmnmacGreat
namespace Go.Proofs.YtmbpckmpnnmnmacGreat
open Go.RowKit
namespace Idl
/-- what is appended: m elements, of these cells -/
def Part (W : World) (size : Nat) (x : Value) (m : Nat) (news : List Value) : Prop :=
  (x = .slice none 0 0 ∧ m = 0 ∧ news = []) ∨ ∃ ad c, x = .slice (some ad) m c ∧ news.length = m * size ∧ ∀ j u, news[j]? = some u → W.cell? (ad.add j) = some u
section
variable {P : Program} {W : World} {base : Nat} {t e : TypeId} {i : TypeInfo} {z : Value} {size bytes : Nat}
theorem run_append_part (ty : TypeId) (ht : P.underlying t = some (.slice e)) (hi : P.info? e = some i) (hz : i.zero = some z)
    (hsize : i.size = size) (hby : i.bytes = bytes) (hzs : z.cells.size = size) (hsz : 0 < size) {v : Value} {n : Nat} {xs : List Value} (hown : W.ownsRow base e size v n xs)
    {x : Value} {m : Nat} {news : List Value} (hp : Part W size x m news) (h1 : ∀ u ∈ news, u.oneCell' = true) (h63 : n + m ≤ maxLen) (hbytes : (n + m) * bytes ≤ 140737488355328) (hbase : base ≤ W.heap.size) :
    ∃ v' W', (Builtin.append_ #[t, t] ty #[v, x]).run P W = .ok v' W' ∧ W'.ownsRow base e size v' (n + m) (xs ++ news) ∧ W.grownBy W' v.ownBlock ∧ (v'.ownBlock = v.ownBlock ∨ v'.ownBlock = some W.heap.size) := by
  rcases hp with ⟨rfl, rfl, rfl⟩ | ⟨ad, c, rfl, hl, hnews⟩
  · exact ⟨v, W, run_append_owned_none W base t ty e i size ht hi v n xs hown, by simpa using hown, ⟨rfl, rfl, rfl, Nat.le_refl _, fun _ _ _ => rfl⟩, .inl rfl⟩
  · obtain ⟨v', w', hr, h2, h3, _, h5⟩ := run_append_own_at (P := P) W base t ty e i z size bytes ht hi hz hsize hby hzs hsz v n xs hown ad m c news hl hnews h1 h63 hbytes hbase
    exact ⟨v', w', hr, h2, h3, h5⟩
theorem wp_append_part {o : Oper} {a : Act} {K : Act → World → Prop} {Q : Exit → Act → World → Prop} (s x : Operand)
    (ho : o.op = .call { callee := .builtin .append, args := #[s, x], argTypes := #[t, t] }) (ht : P.underlying t = some (.slice e)) (hi : P.info? e = some i) (hz : i.zero = some z)
    (hsize : i.size = size) (hby : i.bytes = bytes) (hzs : z.cells.size = size) (hsz : 0 < size) {v : Value} {n : Nat} {xs : List Value} (hs : a.eval s = v) (hown : W.ownsRow base e size v n xs)
    {xv : Value} {m : Nat} {news : List Value} (hx : a.eval x = xv) (hp : Part W size xv m news) (h1 : ∀ u ∈ news, u.oneCell' = true) (h63 : n + m ≤ maxLen) (hbytes : (n + m) * bytes ≤ 140737488355328) (hbase : base ≤ W.heap.size)
    (h : ∀ v' W', W'.ownsRow base e size v' (n + m) (xs ++ news) → W.grownBy W' v.ownBlock → (v'.ownBlock = v.ownBlock ∨ v'.ownBlock = some W.heap.size) → K (a.put o.dst v') W') : o.wp P a W K Q := by
  obtain ⟨v', w', hr, h2, h3, h4⟩ := run_append_part (P := P) (W := W) o.type ht hi hz hsize hby hzs hsz hown hp h1 h63 hbytes hbase
  unfold Oper.wp execOp
  simp only [ho, resolve, invoke, builtin, Sem.run_bind, Sem.run_pure, Result.andThen_ok, List.map_toArray, List.map_cons, List.map_nil, hs, hx, hr]
  exact h v' w' h2 h3 h4
/-- a row of one's own: a slice, and its two parts -/
theorem own_form {v : Value} {m : Nat} {xs : List Value} (h : W.ownsRow base e size v m xs) : ∃ a cap, v = .slice a m cap ∧ m ≤ cap := by
  rcases h.2 with ⟨rfl, rfl⟩ | ⟨g, cap, cur, rfl, _, _, hm, _⟩
  · exact ⟨_, _, rfl, Nat.le_refl _⟩
  · exact ⟨_, _, rfl, hm⟩
theorem part_lo {a : Option Addr} {m cap k : Nat} {xs : List Value} (h : W.ownsRow base e size (.slice a m cap) m xs) (hk : k ≤ m) : Part W size (sliced a 0 k cap size) k (xs.take (k * size)) := by
  have hl := h.1
  rcases h.2 with ⟨ev, rfl⟩ | ⟨g, cap', cur, ev, _, _, hm, _⟩
  · simp only [Value.slice.injEq] at ev
    obtain ⟨rfl, _, rfl⟩ := ev
    have : k = 0 := by omega
    subst this
    exact .inl ⟨rfl, rfl, by simp⟩
  · simp only [Value.slice.injEq] at ev
    obtain ⟨rfl, _, rfl⟩ := ev
    have hc := h.cells (g := g) rfl
    have hks : k * size ≤ m * size := Nat.mul_le_mul_right _ hk
    refine .inr ⟨⟨g, 0, none⟩, cap, ?_, by rw [List.length_take]; omega, fun j u hj => hc j u ?_⟩
    · unfold sliced
      split
      · rfl
      · rw [Option.map_some, Addr.add_lit]; simp
    · rw [List.getElem?_take] at hj
      split at hj
      · exact hj
      · cases hj
theorem part_hi {a : Option Addr} {m cap k : Nat} {xs : List Value} (h : W.ownsRow base e size (.slice a m cap) m xs) (hk : k ≤ m) : Part W size (sliced a k m cap size) (m - k) (xs.drop (k * size)) := by
  have hl := h.1
  rcases h.2 with ⟨ev, rfl⟩ | ⟨g, cap', cur, ev, _, _, hm, _⟩
  · simp only [Value.slice.injEq] at ev
    obtain ⟨rfl, _, rfl⟩ := ev
    have : k = 0 := by omega
    subst this
    have : xs = [] := List.eq_nil_of_length_eq_zero (by simpa using hl)
    subst this
    exact .inl ⟨rfl, rfl, by simp⟩
  · simp only [Value.slice.injEq] at ev
    obtain ⟨rfl, _, rfl⟩ := ev
    have hc := h.cells (g := g) rfl
    by_cases e1 : cap = k
    · have e2 : m = k := by omega
      subst e2
      refine .inr ⟨⟨g, 0, none⟩, cap - m, ?_, by rw [List.length_drop, hl, Nat.sub_self, Nat.sub_self]; simp, fun j u hj => ?_⟩
      · unfold sliced; rw [if_pos e1]
      · rw [List.getElem?_eq_none (by rw [List.length_drop]; omega)] at hj; cases hj
    · refine .inr ⟨⟨g, k * size, none⟩, cap - k, ?_, by rw [List.length_drop, hl, Nat.sub_mul], fun j u hj => ?_⟩
      · unfold sliced; rw [if_neg e1, Option.map_some, Addr.add_lit, Nat.zero_add]
      · rw [List.getElem?_drop] at hj
        have := hc _ _ hj
        rw [Addr.add_lit, Nat.zero_add] at this
        rw [Addr.add_lit]
        exact this
theorem Part.grown {m : Nat} {news : List Value} {B g : Nat} {W' : World} (hW : ∀ k, k < W.heap.size → k ≥ B → W'.heap[k]? = W.heap[k]?) (hB : g ≥ B) (hg : g < W.heap.size) (h : Part W size (.slice (some ⟨g, 0, none⟩) m m) m news) : Part W' size (.slice (some ⟨g, 0, none⟩) m m) m news := by
  rcases h with ⟨h, _⟩ | ⟨ad, c, e, hl, hn⟩
  · cases h
  · simp only [Value.slice.injEq, Option.some.injEq] at e
    obtain ⟨rfl, _, rfl⟩ := e
    refine .inr ⟨_, _, rfl, hl, fun j u hj => ?_⟩
    rw [← hn j u hj]
    rw [Addr.add_lit]
    exact World.cell?_of_block (hW g hg hB)
theorem run_exec_cut_lo {o : Oper} {ρ : Operand → Value} (x y : Operand) (ty : TypeId) (ho : o.op = .slice ty x none (some y) none) {a : Option Addr} {m cap k : Nat} (hx : ρ x = .slice a m cap) (hy : ρ y = .int .i64 (k : Int)) (hk : k ≤ cap)
    (hu : P.underlying ty = some (.slice (P.elem ty))) (hs : (P.info? (P.elem ty)).map (·.size) = some size) (w : World) : (execOp ρ o).run P w = .ok (.value (sliced a 0 k cap size)) w := by
  cases hq : P.info? (P.elem ty) with
  | none => rw [hq] at hs; cases hs
  | some q =>
    rw [hq] at hs
    have hs' : q.size = size := by simpa using hs
    have := run_slice_h (P := P) w ty a m cap hu .i64 (k : Int) (by omega) (by omega)
    unfold execOp
    simp [ho, hx, hy, run_sliceAt_slice, hu, this, sizeOf, typeInfo, hq, hs']
theorem run_exec_cut_hi {o : Oper} {ρ : Operand → Value} (x y : Operand) (ty : TypeId) (ho : o.op = .slice ty x (some y) none none) {a : Option Addr} {m cap k : Nat} (hx : ρ x = .slice a m cap) (hy : ρ y = .int .i64 (k : Int)) (hk : k ≤ m)
    (hu : P.underlying ty = some (.slice (P.elem ty))) (hs : (P.info? (P.elem ty)).map (·.size) = some size) (w : World) : (execOp ρ o).run P w = .ok (.value (sliced a k m cap size)) w := by
  cases hq : P.info? (P.elem ty) with
  | none => rw [hq] at hs; cases hs
  | some q =>
    rw [hq] at hs
    have hs' : q.size = size := by simpa using hs
    have := run_slice_l (P := P) w ty a m cap hu .i64 (k : Int) (by omega) (by omega)
    unfold execOp
    simp [ho, hx, hy, run_sliceAt_slice, hu, this, sizeOf, typeInfo, hq, hs']
end
/-! the names, one tag more -/
theorem namesOf_app : ∀ (l k : List Tg) (d : Int) (out : List ByteArray), namesOf (l ++ k) d out = namesOf k d (namesOf l d out)
  | [], _, _, _ => rfl
  | _ :: l, k, d, _ => namesOf_app l k d _
theorem namesOf_len : ∀ (l : List Tg) (d : Int) (out : List ByteArray), (namesOf l d out).length ≤ l.length + out.length
  | [], d, out => by simp [namesOf]
  | t :: l, d, out => by
    unfold namesOf
    have h := namesOf_len l d (if t.dir = d then insN out t.name else out)
    have h2 : (if t.dir = d then insN out t.name else out).length ≤ out.length + 1 := by
      split
      · unfold insN
        rw [List.length_append, List.length_cons, List.length_take, List.length_drop]
        omega
      · omega
    rw [List.length_cons]
    omega
theorem namesOf_more {l : List Tg} {k : Nat} (h : k < l.length) (d : Int) : namesOf (l.take (k + 1)) d [] = if l[k].dir = d then insN (namesOf (l.take k) d []) l[k].name else namesOf (l.take k) d [] := by
  rw [List.take_add_one, List.getElem?_eq_getElem h, namesOf_app]
  rfl
theorem plN_at {o : List ByteArray} {s : ByteArray} {k : Nat} (hk : k ≤ o.length) (h1 : ∀ j (hj : j < o.length), j < k → lt o[j] s = true) (h2 : ∀ hj : k < o.length, lt o[k] s = false) : plN o s = k := by
  unfold plN
  induction o generalizing k with
  | nil => simp at hk ⊢; omega
  | cons a o ih =>
    cases k with
    | zero =>
      have := h2 (by simp)
      rw [List.getElem_cons_zero] at this
      rw [List.takeWhile_cons, if_neg (by simp [this])]
      rfl
    | succ k =>
      have := h1 0 (by simp) (by omega)
      rw [List.getElem_cons_zero] at this
      rw [List.takeWhile_cons, if_pos this, List.length_cons, ih (k := k) (by simpa using hk) (fun j hj hjk => h1 (j + 1) (by simpa using hj) (by omega)) (fun hj => h2 (by simpa using hj))]
end Idl
end Go.Proofs.YtmbpckmpnnmnmacGreat
namespace Go.Proofs.YtmbpckmpnnmnmacGreat
open Go.RowKit
namespace Idl
end Idl
end Go.Proofs.YtmbpckmpnnmnmacGreat
namespace Go.Proofs.YtmbpckmpnnmnmacGreat
open Go.RowKit
namespace Idl
/-! rows of elements of a width -/
section
variable {α : Type} {f : α → List Value} {c : Nat}
theorem flat_at (hf : ∀ a, (f a).length = c) : ∀ (l : List α) (i : Nat) (hi : i < l.length) (j : Nat) (_ : j < c), (l.flatMap f)[i * c + j]? = (f l[i])[j]?
  | a :: l, 0, _, j, hj => by
    rw [List.flatMap_cons, Nat.zero_mul, Nat.zero_add, List.getElem?_append_left (by rw [hf]; exact hj)]
    rfl
  | a :: l, i + 1, hi, j, hj => by
    have := flat_at hf l i (by simpa using hi) j hj
    rw [List.flatMap_cons, List.getElem?_append_right (by rw [hf, Nat.add_mul]; omega), hf, show (i + 1) * c + j - c = i * c + j by rw [Nat.add_mul]; omega, this]
    rfl
end
def tagC (t : Tg) : List Value := [.int .i64 t.dir, .string t.name, .int .i64 (t.file : Nat)]
def filC (S : St) (i : Nat) : List Value := [.bool (S.has i 0), .bool (S.has i 1), .string (S.txt i 0), .string (S.txt i 1)]
theorem tagC_len (t : Tg) : (tagC t).length = 3 := rfl
def cellsT (l : List Tg) : List Value := l.flatMap tagC
def cellsF (S : St) (n : Nat) : List Value := (List.range n).flatMap (filC S)
theorem cellsT_add (l : List Tg) (t : Tg) : cellsT (l ++ [t]) = cellsT l ++ tagC t := by simp [cellsT]
def iown (b : Nat) (vt vf : Value) (k : Nat) : Prop := k = b ∨ vt.ownBlock = some k ∨ vf.ownBlock = some k
section
variable {w w' : World} {b : Nat} {S : St} {l : List Tg} {vt vf : Value}
theorem row_cell {base : Nat} {e : TypeId} {size : Nat} {v : Value} {n : Nat} {xs : List Value} (h : w.ownsRow base e size v n xs) (hn : 0 < n) : ∃ g cap, v = .slice (some ⟨g, 0, none⟩) n cap ∧ g < w.heap.size ∧ ∀ j u, xs[j]? = some u → w.cell? ⟨g, j, none⟩ = some u := by
  rcases h.2 with ⟨_, e0⟩ | ⟨g, cap, cur, rfl, _, hg, _⟩
  · omega
  · refine ⟨g, cap, rfl, (Array.getElem?_eq_some_iff.1 hg).1, fun j u hj => ?_⟩
    have := h.cells (g := g) rfl j u hj
    rwa [Addr.add_lit, Nat.zero_add] at this
end
end Idl
end Go.Proofs.YtmbpckmpnnmnmacGreat
namespace Go.Proofs.YtmbpckmpnnmnmacGreat
open Go.RowKit
namespace Idl
section
variable {w : World} {b : Nat} {S : St} {l : List Tg} {vt vf : Value}
end
end Idl
end Go.Proofs.YtmbpckmpnnmnmacGreat
namespace Go.Proofs.YtmbpckmpnnmnmacGreat
open Go.RowKit
namespace Idl
section
variable {w : World} {b : Nat} {S : St} {l : List Tg} {vt vf : Value}
end
end Idl
end Go.Proofs.YtmbpckmpnnmnmacGreat
namespace Go.Proofs.YtmbpckmpnnmnmacGreat
open Go.RowKit
namespace Idl
section
variable {w : World} {b : Nat} {S : St} {l : List Tg} {vt vf : Value}
end
end Idl
end Go.Proofs.YtmbpckmpnnmnmacGreat
namespace Go.Proofs.YtmbpckmpnnmnmacGreat
open Go.RowKit
namespace Idl
section
variable {w : World} {b : Nat} {S : St} {l : List Tg} {vt vf : Value}
end
end Idl
end Go.Proofs.YtmbpckmpnnmnmacGreat
namespace Go.Proofs.YtmbpckmpnnmnmacGreat
open Go.RowKit
section
variable {P : Program} {ops : Array Oper} {Q : Exit → Act → World → Prop} {md : Region.Mode} {S : World → Prop} {f : Nat}
def wpAnyJ (P : Program) (md : Region.Mode) (ops : Array Oper) (Q : Exit → Act → World → Prop) (S : World → Prop) (f : Nat) : Nat → Array Bool → Act → World → Prop
  | 0, listed, a, w => Region.ready md ops listed = [] ∧ Q .normal a w
  | fuel + 1, listed, a, w => (Region.ready md ops listed = [] → Q .normal a w) ∧
    ∀ i ∈ Region.ready md ops listed, wpOp P ops Q i (fun a' w' => (i ≠ f → S w') ∧ wpAnyJ P md ops Q S f fuel (listed.setIfInBounds i true) a' w') a w
theorem wpAny_of_J : ∀ (fuel : Nat) (listed : Array Bool) (a : Act) (w : World), wpAnyJ P md ops Q S f fuel listed a w → wpAny P md ops Q fuel listed a w
  | 0, _, _, _, h => h
  | fuel + 1, _, _, _, h => ⟨h.1, fun i hi => wpOp_mono (fun a' w' h' => wpAny_of_J fuel _ a' w' h'.2) (h.2 i hi)⟩
/-- the last one waitsJ for it -/
def waitsJ (md : Region.Mode) (ops : Array Oper) (f i : Nat) : Bool := match ops[f]? with | some o => o.after.any fun e => Region.binds md e && e.on == i | none => false
theorem waitsJ_ready {i : Nat} {listed : Array Bool} (h : waitsJ md ops f i = true) (hi : listed.getD i true = false) : f ∉ Region.ready md ops listed := fun hf => by
  obtain ⟨_, o, ho, hall⟩ := mem_ready.1 hf
  unfold waitsJ at h
  rw [ho] at h
  simp only [Array.any_eq_true, Bool.and_eq_true, beq_iff_eq] at h
  obtain ⟨j, hj, hb, e⟩ := h
  have := hall _ (Array.getElem_mem hj) hb
  rw [e] at this
  rcases Nat.lt_or_ge i listed.size with h' | h'
  · simp [h'] at hi this; rw [hi] at this; cases this
  · simp [Array.getElem?_eq_none h'] at this
theorem wpAnyJ_first {i : Nat} {oi : Oper} {v : Value} (hi : ops[i]? = some oi) (hsel : ∀ (j : Nat) (o : Oper) cs b, ops[j]? = some o → o.op ≠ .select cs b)
    (hQ : ∀ c a w, Q (.panic c) (a.put oi.dst v) w → Q (.panic c) a w) (hw : waitsJ md ops f i = true) :
    ∀ (fuel : Nat) (listed : Array Bool) (a : Act) (w : World),
      (∀ j oj, ops[j]? = some oj → j ≠ i → listed.getD j true = false → (∀ e ∈ oj.after, Region.binds md e = true → e.on ≠ i) → oi.apart ops oj = true) →
      i ∈ Region.ready md ops listed → YieldsIf P ops S oi v a → S w →
      wpAnyJ P md ops Q S f fuel (listed.setIfInBounds i true) (a.put oi.dst v) w → wpAnyJ P md ops Q S f (fuel + 1) listed a w := by
  intro fuel
  induction fuel with
  | zero =>
    intro listed a w _ hr hy hS H
    refine ⟨fun h => (by rw [h] at hr; cases hr), fun j hj => ?_⟩
    by_cases hji : j = i
    · subst hji; exact hy.wpOp hi hS ⟨fun _ => hS, H⟩
    · have := ready_mono hj hji
      rw [H.1] at this
      cases this
  | succ fuel ih =>
    intro listed a w hfree hr hy hS H
    refine ⟨fun h => (by rw [h] at hr; cases hr), fun j hj => ?_⟩
    by_cases hji : j = i
    · subst hji; exact hy.wpOp hi hS ⟨fun _ => hS, H⟩
    · have h1 := H.2 j (ready_mono hj hji)
      have hjf : j ≠ f := fun e => waitsJ_ready hw (mem_ready.1 hr).1 (by rw [← e]; exact hj)
      obtain ⟨hjun, oj, hoj, hall⟩ := mem_ready.1 hj
      have hnot : ∀ e ∈ oj.after, Region.binds md e = true → e.on ≠ i := fun e he hb heq => by
        have h1 := hall e he hb
        have h0 := (mem_ready.1 hr).1
        rw [heq] at h1
        rcases Nat.lt_or_ge i listed.size with h' | h'
        · simp [h'] at h0 h1; rw [h0] at h1; cases h1
        · simp [Array.getElem?_eq_none h'] at h1
      have h2 := wpOp_putIf hoj (hfree j oj hoj hji hjun hnot) (fun cs b => hsel i oi cs b hi) (fun cs b => hsel j oj cs b hoj) hQ hy h1
      have hfree' : ∀ k ok, ops[k]? = some ok → k ≠ i → (listed.setIfInBounds j true).getD k true = false →
          (∀ e ∈ ok.after, Region.binds md e = true → e.on ≠ i) → oi.apart ops ok = true := fun k ok hk hki hun hno => by
        refine hfree k ok hk hki ?_ hno
        by_cases hjk : j = k
        · subst hjk; exact hjun
        · rw [getD_set_ne true hjk] at hun; exact hun
      refine wpOp_mono (fun a' w' h3 => ⟨fun _ => h3.2.1 hjf, ih (listed.setIfInBounds j true) a' w' hfree' (ready_mono hr (Ne.symm hji)) h3.1 (h3.2.1 hjf) ?_⟩) h2
      rw [Array.setIfInBounds_comm _ _ hji]
      exact h3.2.2
theorem wpAnyJ_take {i : Nat} {oi : Oper} {v : Value} {fuel : Nat} {listed : Array Bool} {a : Act} {w : World} (hi : ops[i]? = some oi)
    (hs : Region.noSelect ops = true) (hf : Region.free md ops listed i = true) (hr : (Region.ready md ops listed).contains i = true) (hw : waitsJ md ops f i = true)
    (hQ : ∀ c a w, Q (.panic c) (a.put oi.dst v) w → Q (.panic c) a w) (hy : YieldsIf P ops S oi v a) (hS : S w)
    (h : wpAnyJ P md ops Q S f fuel (listed.setIfInBounds i true) (a.put oi.dst v) w) : wpAnyJ P md ops Q S f (fuel + 1) listed a w :=
  wpAnyJ_first hi (Region.noSelect_spec hs) hQ hw fuel listed a w (Region.free_spec hi hf) (by simpa using hr) hy hS h
/-- one alone may come up -/
theorem wpAnyJ_one {i : Nat} {o : Oper} {fuel : Nat} {listed : Array Bool} {a : Act} {w : World} (hr : Region.ready md ops listed = [i]) (ho : ops[i]? = some o) (hwant : Region.wanted o (yielded ops a.tmps) = true)
    (h : ∀ K' : Act → World → Prop, Shut (∀ a w, (i ≠ f → S w) → wpAnyJ P md ops Q S f fuel (listed.setIfInBounds i true) a w → K' a w) → Oper.wp P o a w K' Q) : wpAnyJ P md ops Q S f (fuel + 1) listed a w := by
  refine ⟨fun h0 => (by rw [hr] at h0; cases h0), fun j hj => ?_⟩
  rw [hr, List.mem_singleton] at hj
  subst hj
  exact wpOp_step ho (fun K' hK => by rw [if_pos hwant]; exact h K' (fun a w hS hW => hK a w ⟨hS, hW⟩))
theorem wpAnyJ_done {listed : Array Bool} {a : Act} {w : World} (hr : Region.ready md ops listed = []) (h : Q .normal a w) : ∀ fuel, wpAnyJ P md ops Q S f fuel listed a w
  | 0 => ⟨hr, h⟩
  | _ + 1 => ⟨fun _ => h, by rw [hr]; simp⟩
theorem wp_region_J {id : Nat} {a : Act} {w : World} (f : Nat) (hm : P.follows .mixedOrders = true) (hS : S w.drew)
    (h : S w.drew → wpAnyJ P .any ops Q S f ops.size (Array.replicate ops.size false) a w.drew) : (Code.region id ops true).wp P Q a w :=
  wp_region_any hm (wpAny_of_J _ _ _ _ (h hS))
end
end Go.Proofs.YtmbpckmpnnmnmacGreat
namespace Go.Proofs.YtmbpckmpnnmnmacGreat
open Go.RowKit
namespace Idl
/-- the reference's world, without its laws -/
structure IRaw (w : World) (b : Nat) (l : List Tg) (n : Nat) (S : St) (vt vf : Value) : Prop where
  root : w.heap[b]? = some (.cells #[vt, vf] 87 (0, 0))
  rowT : w.ownsRow 0 89 3 vt l.length (cellsT l)
  rowF : w.ownsRow 0 178 4 vf n (cellsF S n)
  offT : vt.ownBlock ≠ some b
  offF : vf.ownBlock ≠ some b
  apart : ∀ k, vt.ownBlock = some k → vf.ownBlock ≠ some k
section
variable {w w' W : World} {b n : Nat} {S S' : St} {l l' : List Tg} {vt vf : Value}
theorem IRaw.blt (h : IRaw w b l n S vt vf) : b < w.heap.size := (Array.getElem?_eq_some_iff.1 h.root).1
theorem IRaw.lt (h : IRaw w b l n S vt vf) {k : Nat} (hk : iown b vt vf k) : k < w.heap.size := by
  rcases hk with rfl | hk | hk
  · exact h.blt
  · exact (h.rowT.lt k hk).2
  · exact (h.rowF.lt k hk).2
theorem IRaw.keep (h : IRaw w b l n S vt vf) (hk : ∀ k, iown b vt vf k → w'.heap[k]? = w.heap[k]?) : IRaw w' b l n S vt vf :=
  ⟨by rw [hk b (.inl rfl)]; exact h.root, ownsRow_of_block h.rowT (fun k e => hk k (.inr (.inl e))), ownsRow_of_block h.rowF (fun k e => hk k (.inr (.inr e))), h.offT, h.offF, h.apart⟩
theorem IRaw.below (h : IRaw w b l n S vt vf) (hb : Below w.heap.size w w') : IRaw w' b l n S vt vf := h.keep (fun k hk => hb.block k (h.lt hk))
theorem IRaw.setT (h : IRaw w b l n S vt vf) {row : Option Nat} {v : Value} (hg : w.grownBy W row) (hr : row = none ∨ row = vt.ownBlock)
    (ho : W.ownsRow 0 89 3 v l'.length (cellsT l')) (ha : v.ownBlock = vt.ownBlock ∨ ∀ k, v.ownBlock = some k → w.heap.size ≤ k) :
    IRaw (W.setCell ⟨b, 0, none⟩ v) b l' n S v vf ∧ Chg (iown b vt vf) w (W.setCell ⟨b, 0, none⟩ v) ∧ ∀ k, iown b v vf k → iown b vt vf k ∨ w.heap.size ≤ k := by
  have hbr : some b ≠ row := by
    rcases hr with rfl | rfl
    · intro e; cases e
    · exact fun e => h.offT e.symm
  have hb : W.heap[b]? = some (.cells #[vt, vf] 87 (0, 0)) := by rw [hg.block b h.blt hbr]; exact h.root
  have hoth : ∀ k, k ≠ b → (W.setCell ⟨b, 0, none⟩ v).heap[k]? = W.heap[k]? := fun k hk => Below.heap_setCell _ _ _ _ hk
  have hsz : (W.setCell ⟨b, 0, none⟩ v).heap.size = W.heap.size := by simp [World.setCell]
  have hvb : v.ownBlock ≠ some b := by
    rcases ha with e | e
    · rw [e]; exact h.offT
    · intro e2
      have := e b e2
      have := h.blt
      omega
  have hvf : ∀ k, vf.ownBlock = some k → W.heap[k]? = w.heap[k]? := fun k hk => hg.block k (h.rowF.lt k hk).2 (by
    rcases hr with rfl | rfl
    · intro e; cases e
    · exact fun e => h.apart k e.symm hk)
  refine ⟨⟨?_, ownsRow_of_block ho (fun k hk => hoth k (fun e => hvb (by rw [← e]; exact hk))), ?_, hvb, h.offF, fun k hk hk2 => ?_⟩, ⟨?_, ?_, ?_, ?_, fun k hk hn2 => ?_⟩, fun k hk => ?_⟩
  · rw [setCell_eq_setRow W b 0 _ _ _ v hb, setRow_heap W b _ _ _ _ hb]
    rfl
  · exact ownsRow_of_block h.rowF (fun k hk => by rw [hoth k (fun e => h.offF (by rw [← e]; exact hk)), hvf k hk])
  · rcases ha with e | e
    · exact h.apart k (by rw [← e]; exact hk) hk2
    · have := e k hk
      have := (h.rowF.lt k hk2).2
      omega
  · exact hg.os
  · exact hg.tape
  · exact hg.output
  · rw [hsz]; exact hg.size
  · rw [hoth k (fun e => hn2 (.inl e))]
    refine hg.block k hk ?_
    rcases hr with rfl | rfl
    · intro e; cases e
    · exact fun e => hn2 (.inr (.inl e.symm))
  · rcases hk with e | e | e
    · exact .inl (.inl e)
    · rcases ha with e2 | e2
      · exact .inl (.inr (.inl (by rw [← e2]; exact e)))
      · exact .inr (e2 k e)
    · exact .inl (.inr (.inr e))
end
theorem tag_info : ∃ i z, Tryz.prog.info? 89 = some i ∧ i.zero = some z ∧ i.size = 3 ∧ i.bytes = 32 ∧ z.cells.size = 3 := by
  have h : (Tryz.prog.info? 89).map (fun i => (i.zero.map (fun z => z.cells.size), i.size, i.bytes)) = some (some 3, 3, 32) := by kernel_rfl
  cases hq : Tryz.prog.info? 89 with
  | none => rw [hq] at h; cases h
  | some i =>
    rw [hq] at h
    simp only [Option.map_some, Option.some.injEq, Prod.mk.injEq] at h
    cases hz : i.zero with
    | none => rw [hz] at h; cases h.1
    | some z =>
      rw [hz] at h
      simp only [Option.map_some, Option.some.injEq] at h
      exact ⟨i, z, rfl, hz, h.2.1, h.2.2, h.1⟩
theorem row_new (W : World) (xs : List Value) (t : TypeId) : ∀ j u, xs[j]? = some u → (W.alloc (.cells xs.toArray t)).cell? ((⟨W.heap.size, 0, none⟩ : Addr).add j) = some u := fun j u hj => by
  rw [Addr.add_lit, Nat.zero_add, World.cell?_alloc_at _ _ _ _ rfl]
  simpa using hj
end Idl
end Go.Proofs.YtmbpckmpnnmnmacGreat
namespace Go.Proofs.YtmbpckmpnnmnmacGreat
open Go.RowKit
namespace Idl
def RawTo (b : Nat) (vt vf : Value) (W0 W' : World) (l' : List Tg) (n' : Nat) (S' : St) (vt' vf' : Value) : Prop :=
  IRaw W' b l' n' S' vt' vf' ∧ Chg (iown b vt vf) W0 W' ∧ ∀ k, iown b vt' vf' k → iown b vt vf k ∨ W0.heap.size ≤ k
theorem make_raw {W0 W2 : World} {b n : Nat} {S : St} {l : List Tg} {vt vf v' : Value} {ob : Obj} (h : IRaw W0 b l n S vt vf) {d : Int} {s : ByteArray} {k : Nat}
    (ho : W2.ownsRow 0 89 3 v' (l.length + 1) (cellsT l ++ [.int .i64 d, .string s, .int .i64 (k : Nat)])) (hg : (W0.alloc ob).grownBy W2 vt.ownBlock)
    (ha : v'.ownBlock = vt.ownBlock ∨ v'.ownBlock = some (W0.alloc ob).heap.size) : RawTo b vt vf W0 (W2.setCell ⟨b, 0, none⟩ v') (l ++ [⟨d, s, k⟩]) n S v' vf := by
  have hb := (Below.refl W0.heap.size W0).alloc (Nat.le_refl _) ob
  have h1 := h.below hb
  have e := h1.setT (l' := l ++ [⟨d, s, k⟩]) hg (.inr rfl) (by rw [cellsT_add, List.length_append]; exact ho) (by
    rcases ha with z | z
    · exact .inl z
    · exact .inr fun k hk => by rw [z] at hk; cases hk; exact Nat.le_refl _)
  refine ⟨e.1, (Chg.of_below hb).trans e.2.1 (fun i hi => .inl hi), fun i hi => ?_⟩
  rcases e.2.2 i hi with z | z
  · exact .inl z
  · exact .inr (Nat.le_trans hb.size z)
theorem raw_frozen {W0 W2 : World} {b n : Nat} {S : St} {l : List Tg} {vt vf : Value} {ob : Obj} (h : IRaw W0 b l n S vt vf) (hg : (W0.alloc ob).grownBy W2 vt.ownBlock) : W2.frozen? ⟨b, 0, none⟩ = false := by
  refine frozen_of_row W2 b 0 #[vt, vf] 87 ?_
  rw [hg.block b (Nat.lt_of_lt_of_le h.blt (by simp)) (fun e => h.offT e.symm), heap_alloc_old _ _ h.blt]
  exact h.root
theorem run_ld_slT {o : Oper} {ρ : Operand → Value} (x : Operand) (ho : o.op = .load 84 x) {g o0 : Nat} (hx : ρ x = .pointer (some ⟨g, o0, none⟩)) {a : Option Addr} {n c : Nat} (w : World) (h : w.cell? ⟨g, o0, none⟩ = some (.slice a n c)) : (execOp ρ o).run Tryz.prog w = .ok (.value (.slice a n c)) w := by
  unfold execOp
  rw [ho]
  go_simp
theorem wp_st_slT {o : Oper} {a : Act} {K : Act → World → Prop} {Q : Exit → Act → World → Prop} {W : World} (x y : Operand) (ho : o.op = .store 84 x y) (hd : o.dst = none) {g o0 : Nat} {v : Option Addr} {n c : Nat} (hx : a.eval x = .pointer (some ⟨g, o0, none⟩)) (hy : a.eval y = .slice v n c) {u : Value} (hc : W.cell? ⟨g, o0, none⟩ = some u) (hf : W.frozen? ⟨g, o0, none⟩ = false)
    (h : K a (W.setCell ⟨g, o0, none⟩ (.slice v n c))) : o.wp Tryz.prog a W K Q := by
  unfold Oper.wp execOp
  simp only [ho, hx, hy]
  go_simp
  exact h
theorem one_tag (d : Int) (s : ByteArray) (k : Nat) : ∀ u ∈ [Value.int .i64 d, .string s, .int .i64 ((k : Nat) : Int)], u.oneCell' = true := fun u hu => by
  simp only [List.mem_cons, List.not_mem_nil, or_false] at hu
  rcases hu with rfl | rfl | rfl <;> rfl
section
variable {w : World} {b : Nat} {S : St} {l : List Tg} {vt vf : Value}
end
end Idl
end Go.Proofs.YtmbpckmpnnmnmacGreat
