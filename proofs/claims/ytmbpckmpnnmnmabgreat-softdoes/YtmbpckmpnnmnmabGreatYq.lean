/-
  The reference's world in memory, for those who only read: the walks of (*eiderdownref.Ideal).at, Same.
-/
import Derived.Test.YtmbpckmpnnmnmabGreatZz
import Derived.Test.YtmbpckmpnnmnmabGreatYj
import Derived.Test.YtmbpckmpnnmnmabGreatYn
import Derived.BigQuiet
import Derived.Test.YtmbpckmpnnmnmabGreatQVn
import Derived.Laws.OwnMore
import Derived.Deep.RegionHeld
import Derived.RegionTactic
import Derived.BigRegion
import Derived.Lib.AppendZerosOnto
namespace Go.Proofs.YtmbpckmpnnmnmabGreat
open Go.RowKit
namespace Idl
/-- the tags' cells: a row of three a tag; the files': of four a file -/
structure IRd (w : World) (b : Nat) (S : St) (l : List Tg) (ta fa : Option Addr) (tc fc : Nat) : Prop where
  lt : b < w.heap.size
  tv : w.cell? ⟨b, 0, none⟩ = some (.slice ta l.length tc)
  fv : w.cell? ⟨b, 1, none⟩ = some (.slice fa S.next fc)
  few : l.length ≤ 1000000
  many : S.next ≤ 1000000
  tags : ∀ i (h : i < l.length), ∃ g o, ta = some ⟨g, o, none⟩ ∧ g < w.heap.size ∧ w.cell? ⟨g, o + i * 3, none⟩ = some (.int .i64 l[i].dir) ∧ w.cell? ⟨g, o + i * 3 + 1, none⟩ = some (.string l[i].name) ∧ w.cell? ⟨g, o + i * 3 + 2, none⟩ = some (.int .i64 (l[i].file : Nat))
  files : ∀ i, i < S.next → ∃ g o, fa = some ⟨g, o, none⟩ ∧ g < w.heap.size ∧ (∀ p, p < 2 → w.cell? ⟨g, o + i * 4 + p, none⟩ = some (.bool (S.has i p))) ∧ ∀ p, p < 2 → w.cell? ⟨g, o + i * 4 + 2 + p, none⟩ = some (.string (S.txt i p))
end Idl
end Go.Proofs.YtmbpckmpnnmnmabGreat
namespace Go.Proofs.YtmbpckmpnnmnmabGreat
open Go.RowKit
namespace Idl
/-- what is appended: m elements, of these cells -/
def Part (W : World) (size : Nat) (x : Value) (m : Nat) (news : List Value) : Prop :=
  (x = .slice none 0 0 ∧ m = 0 ∧ news = []) ∨ ∃ ad c, x = .slice (some ad) m c ∧ news.length = m * size ∧ ∀ j u, news[j]? = some u → W.cell? (ad.add j) = some u
section
variable {P : Program} {W : World} {base : Nat} {t e : TypeId} {i : TypeInfo} {z : Value} {size bytes : Nat}
theorem run_append_part (ty : TypeId) (ht : P.underlying t = some (.slice e)) (hi : P.info? e = some i) (hz : i.zero = some z)
    (hsize : i.size = size) (hby : i.bytes = bytes) (hzs : z.cells.size = size) (hsz : 0 < size) {v : Value} {n : Nat} {xs : List Value} (hown : W.ownsRow base e size v n xs)
    {x : Value} {m : Nat} {news : List Value} (hp : Part W size x m news) (h1 : ∀ u ∈ news, u.oneCell' = true) (h63 : n + m ≤ maxLen) (hbytes : (n + m) * bytes ≤ 140737488355328) (hbase : base ≤ W.heap.size) :
    ∃ v' W', (Builtin.append_ #[t, t] ty #[v, x]).run P W = .ok v' W' ∧ W'.ownsRow base e size v' (n + m) (xs ++ news) ∧ W.grownBy W' v.ownBlock ∧ (v'.ownBlock = v.ownBlock ∨ v'.ownBlock = some W.heap.size) := by
  rcases hp with ⟨rfl, rfl, rfl⟩ | ⟨ad, c, rfl, hl, hnews⟩
  · exact ⟨v, W, run_append_owned_none W base t ty e i size ht hi v n xs hown, by simpa using hown, ⟨rfl, rfl, rfl, Nat.le_refl _, fun _ _ _ => rfl⟩, .inl rfl⟩
  · obtain ⟨v', w', hr, h2, h3, _, h5⟩ := run_append_own_at (P := P) W base t ty e i z size bytes ht hi hz hsize hby hzs hsz v n xs hown ad m c news hl hnews h1 h63 hbytes hbase
    exact ⟨v', w', hr, h2, h3, h5⟩
theorem wp_append_part {o : Oper} {a : Act} {K : Act → World → Prop} {Q : Exit → Act → World → Prop} (s x : Operand)
    (ho : o.op = .call { callee := .builtin .append, args := #[s, x], argTypes := #[t, t] }) (ht : P.underlying t = some (.slice e)) (hi : P.info? e = some i) (hz : i.zero = some z)
    (hsize : i.size = size) (hby : i.bytes = bytes) (hzs : z.cells.size = size) (hsz : 0 < size) {v : Value} {n : Nat} {xs : List Value} (hs : a.eval s = v) (hown : W.ownsRow base e size v n xs)
    {xv : Value} {m : Nat} {news : List Value} (hx : a.eval x = xv) (hp : Part W size xv m news) (h1 : ∀ u ∈ news, u.oneCell' = true) (h63 : n + m ≤ maxLen) (hbytes : (n + m) * bytes ≤ 140737488355328) (hbase : base ≤ W.heap.size)
    (h : ∀ v' W', W'.ownsRow base e size v' (n + m) (xs ++ news) → W.grownBy W' v.ownBlock → (v'.ownBlock = v.ownBlock ∨ v'.ownBlock = some W.heap.size) → K (a.put o.dst v') W') : o.wp P a W K Q := by
  obtain ⟨v', w', hr, h2, h3, h4⟩ := run_append_part (P := P) (W := W) o.type ht hi hz hsize hby hzs hsz hown hp h1 h63 hbytes hbase
  unfold Oper.wp execOp
  simp only [ho, resolve, invoke, builtin, Sem.run_bind, Sem.run_pure, Result.andThen_ok, List.map_toArray, List.map_cons, List.map_nil, hs, hx, hr]
  exact h v' w' h2 h3 h4
/-- a row of one's own: a slice, and its two parts -/
theorem own_form {v : Value} {m : Nat} {xs : List Value} (h : W.ownsRow base e size v m xs) : ∃ a cap, v = .slice a m cap ∧ m ≤ cap := by
  rcases h.2 with ⟨rfl, rfl⟩ | ⟨g, cap, cur, rfl, _, _, hm, _⟩
  · exact ⟨_, _, rfl, Nat.le_refl _⟩
  · exact ⟨_, _, rfl, hm⟩
theorem part_lo {a : Option Addr} {m cap k : Nat} {xs : List Value} (h : W.ownsRow base e size (.slice a m cap) m xs) (hk : k ≤ m) : Part W size (sliced a 0 k cap size) k (xs.take (k * size)) := by
  have hl := h.1
  rcases h.2 with ⟨ev, rfl⟩ | ⟨g, cap', cur, ev, _, _, hm, _⟩
  · simp only [Value.slice.injEq] at ev
    obtain ⟨rfl, _, rfl⟩ := ev
    have : k = 0 := by omega
    subst this
    exact .inl ⟨rfl, rfl, by simp⟩
  · simp only [Value.slice.injEq] at ev
    obtain ⟨rfl, _, rfl⟩ := ev
    have hc := h.cells (g := g) rfl
    have hks : k * size ≤ m * size := Nat.mul_le_mul_right _ hk
    refine .inr ⟨⟨g, 0, none⟩, cap, ?_, by rw [List.length_take]; omega, fun j u hj => hc j u ?_⟩
    · unfold sliced
      split
      · rfl
      · rw [Option.map_some, Addr.add_lit]; simp
    · rw [List.getElem?_take] at hj
      split at hj
      · exact hj
      · cases hj
theorem part_hi {a : Option Addr} {m cap k : Nat} {xs : List Value} (h : W.ownsRow base e size (.slice a m cap) m xs) (hk : k ≤ m) : Part W size (sliced a k m cap size) (m - k) (xs.drop (k * size)) := by
  have hl := h.1
  rcases h.2 with ⟨ev, rfl⟩ | ⟨g, cap', cur, ev, _, _, hm, _⟩
  · simp only [Value.slice.injEq] at ev
    obtain ⟨rfl, _, rfl⟩ := ev
    have : k = 0 := by omega
    subst this
    have : xs = [] := List.eq_nil_of_length_eq_zero (by simpa using hl)
    subst this
    exact .inl ⟨rfl, rfl, by simp⟩
  · simp only [Value.slice.injEq] at ev
    obtain ⟨rfl, _, rfl⟩ := ev
    have hc := h.cells (g := g) rfl
    by_cases e1 : cap = k
    · have e2 : m = k := by omega
      subst e2
      refine .inr ⟨⟨g, 0, none⟩, cap - m, ?_, by rw [List.length_drop, hl, Nat.sub_self, Nat.sub_self]; simp, fun j u hj => ?_⟩
      · unfold sliced; rw [if_pos e1]
      · rw [List.getElem?_eq_none (by rw [List.length_drop]; omega)] at hj; cases hj
    · refine .inr ⟨⟨g, k * size, none⟩, cap - k, ?_, by rw [List.length_drop, hl, Nat.sub_mul], fun j u hj => ?_⟩
      · unfold sliced; rw [if_neg e1, Option.map_some, Addr.add_lit, Nat.zero_add]
      · rw [List.getElem?_drop] at hj
        have := hc _ _ hj
        rw [Addr.add_lit, Nat.zero_add] at this
        rw [Addr.add_lit]
        exact this
theorem Part.grown {m : Nat} {news : List Value} {B g : Nat} {W' : World} (hW : ∀ k, k < W.heap.size → k ≥ B → W'.heap[k]? = W.heap[k]?) (hB : g ≥ B) (hg : g < W.heap.size) (h : Part W size (.slice (some ⟨g, 0, none⟩) m m) m news) : Part W' size (.slice (some ⟨g, 0, none⟩) m m) m news := by
  rcases h with ⟨h, _⟩ | ⟨ad, c, e, hl, hn⟩
  · cases h
  · simp only [Value.slice.injEq, Option.some.injEq] at e
    obtain ⟨rfl, _, rfl⟩ := e
    refine .inr ⟨_, _, rfl, hl, fun j u hj => ?_⟩
    rw [← hn j u hj]
    rw [Addr.add_lit]
    exact World.cell?_of_block (hW g hg hB)
theorem run_exec_cut_lo {o : Oper} {ρ : Operand → Value} (x y : Operand) (ty : TypeId) (ho : o.op = .slice ty x none (some y) none) {a : Option Addr} {m cap k : Nat} (hx : ρ x = .slice a m cap) (hy : ρ y = .int .i64 (k : Int)) (hk : k ≤ cap)
    (hu : P.underlying ty = some (.slice (P.elem ty))) (hs : (P.info? (P.elem ty)).map (·.size) = some size) (w : World) : (execOp ρ o).run P w = .ok (.value (sliced a 0 k cap size)) w := by
  cases hq : P.info? (P.elem ty) with
  | none => rw [hq] at hs; cases hs
  | some q =>
    rw [hq] at hs
    have hs' : q.size = size := by simpa using hs
    have := run_slice_h (P := P) w ty a m cap hu .i64 (k : Int) (by omega) (by omega)
    unfold execOp
    simp [ho, hx, hy, run_sliceAt_slice, hu, this, sizeOf, typeInfo, hq, hs']
theorem run_exec_cut_hi {o : Oper} {ρ : Operand → Value} (x y : Operand) (ty : TypeId) (ho : o.op = .slice ty x (some y) none none) {a : Option Addr} {m cap k : Nat} (hx : ρ x = .slice a m cap) (hy : ρ y = .int .i64 (k : Int)) (hk : k ≤ m)
    (hu : P.underlying ty = some (.slice (P.elem ty))) (hs : (P.info? (P.elem ty)).map (·.size) = some size) (w : World) : (execOp ρ o).run P w = .ok (.value (sliced a k m cap size)) w := by
  cases hq : P.info? (P.elem ty) with
  | none => rw [hq] at hs; cases hs
  | some q =>
    rw [hq] at hs
    have hs' : q.size = size := by simpa using hs
    have := run_slice_l (P := P) w ty a m cap hu .i64 (k : Int) (by omega) (by omega)
    unfold execOp
    simp [ho, hx, hy, run_sliceAt_slice, hu, this, sizeOf, typeInfo, hq, hs']
end
/-! the names, one tag more -/
theorem namesOf_app : ∀ (l k : List Tg) (d : Int) (out : List ByteArray), namesOf (l ++ k) d out = namesOf k d (namesOf l d out)
  | [], _, _, _ => rfl
  | _ :: l, k, d, _ => namesOf_app l k d _
theorem namesOf_len : ∀ (l : List Tg) (d : Int) (out : List ByteArray), (namesOf l d out).length ≤ l.length + out.length
  | [], d, out => by simp [namesOf]
  | t :: l, d, out => by
    unfold namesOf
    have h := namesOf_len l d (if t.dir = d then insN out t.name else out)
    have h2 : (if t.dir = d then insN out t.name else out).length ≤ out.length + 1 := by
      split
      · unfold insN
        rw [List.length_append, List.length_cons, List.length_take, List.length_drop]
        omega
      · omega
    rw [List.length_cons]
    omega
theorem namesOf_more {l : List Tg} {k : Nat} (h : k < l.length) (d : Int) : namesOf (l.take (k + 1)) d [] = if l[k].dir = d then insN (namesOf (l.take k) d []) l[k].name else namesOf (l.take k) d [] := by
  rw [List.take_add_one, List.getElem?_eq_getElem h, namesOf_app]
  rfl
theorem plN_at {o : List ByteArray} {s : ByteArray} {k : Nat} (hk : k ≤ o.length) (h1 : ∀ j (hj : j < o.length), j < k → lt o[j] s = true) (h2 : ∀ hj : k < o.length, lt o[k] s = false) : plN o s = k := by
  unfold plN
  induction o generalizing k with
  | nil => simp at hk ⊢; omega
  | cons a o ih =>
    cases k with
    | zero =>
      have := h2 (by simp)
      rw [List.getElem_cons_zero] at this
      rw [List.takeWhile_cons, if_neg (by simp [this])]
      rfl
    | succ k =>
      have := h1 0 (by simp) (by omega)
      rw [List.getElem_cons_zero] at this
      rw [List.takeWhile_cons, if_pos this, List.length_cons, ih (k := k) (by simpa using hk) (fun j hj hjk => h1 (j + 1) (by simpa using hj) (by omega)) (fun hj => h2 (by simpa using hj))]
end Idl
end Go.Proofs.YtmbpckmpnnmnmabGreat
namespace Go.Proofs.YtmbpckmpnnmnmabGreat
open Go.RowKit
namespace Idl
/-! rows of elements of a width -/
section
variable {α : Type} {f : α → List Value} {c : Nat}
theorem flat_at (hf : ∀ a, (f a).length = c) : ∀ (l : List α) (i : Nat) (hi : i < l.length) (j : Nat) (_ : j < c), (l.flatMap f)[i * c + j]? = (f l[i])[j]?
  | a :: l, 0, _, j, hj => by
    rw [List.flatMap_cons, Nat.zero_mul, Nat.zero_add, List.getElem?_append_left (by rw [hf]; exact hj)]
    rfl
  | a :: l, i + 1, hi, j, hj => by
    have := flat_at hf l i (by simpa using hi) j hj
    rw [List.flatMap_cons, List.getElem?_append_right (by rw [hf, Nat.add_mul]; omega), hf, show (i + 1) * c + j - c = i * c + j by rw [Nat.add_mul]; omega, this]
    rfl
end
def tagC (t : Tg) : List Value := [.int .i64 t.dir, .string t.name, .int .i64 (t.file : Nat)]
def filC (S : St) (i : Nat) : List Value := [.bool (S.has i 0), .bool (S.has i 1), .string (S.txt i 0), .string (S.txt i 1)]
theorem tagC_len (t : Tg) : (tagC t).length = 3 := rfl
def cellsT (l : List Tg) : List Value := l.flatMap tagC
def cellsF (S : St) (n : Nat) : List Value := (List.range n).flatMap (filC S)
theorem cellsT_add (l : List Tg) (t : Tg) : cellsT (l ++ [t]) = cellsT l ++ tagC t := by simp [cellsT]
def iown (b : Nat) (vt vf : Value) (k : Nat) : Prop := k = b ∨ vt.ownBlock = some k ∨ vf.ownBlock = some k
section
variable {w w' : World} {b : Nat} {S : St} {l : List Tg} {vt vf : Value}
theorem row_cell {base : Nat} {e : TypeId} {size : Nat} {v : Value} {n : Nat} {xs : List Value} (h : w.ownsRow base e size v n xs) (hn : 0 < n) : ∃ g cap, v = .slice (some ⟨g, 0, none⟩) n cap ∧ g < w.heap.size ∧ ∀ j u, xs[j]? = some u → w.cell? ⟨g, j, none⟩ = some u := by
  rcases h.2 with ⟨_, e0⟩ | ⟨g, cap, cur, rfl, _, hg, _⟩
  · omega
  · refine ⟨g, cap, rfl, (Array.getElem?_eq_some_iff.1 hg).1, fun j u hj => ?_⟩
    have := h.cells (g := g) rfl j u hj
    rwa [Addr.add_lit, Nat.zero_add] at this
end
end Idl
end Go.Proofs.YtmbpckmpnnmnmabGreat
namespace Go.Proofs.YtmbpckmpnnmnmabGreat
open Go.RowKit
section
variable {P : Program} {ops : Array Oper} {Q : Exit → Act → World → Prop} {md : Region.Mode} {S : World → Prop} {f : Nat}
def wpAnyJ (P : Program) (md : Region.Mode) (ops : Array Oper) (Q : Exit → Act → World → Prop) (S : World → Prop) (f : Nat) : Nat → Array Bool → Act → World → Prop
  | 0, listed, a, w => Region.ready md ops listed = [] ∧ Q .normal a w
  | fuel + 1, listed, a, w => (Region.ready md ops listed = [] → Q .normal a w) ∧
    ∀ i ∈ Region.ready md ops listed, wpOp P ops Q i (fun a' w' => (i ≠ f → S w') ∧ wpAnyJ P md ops Q S f fuel (listed.setIfInBounds i true) a' w') a w
theorem wpAny_of_J : ∀ (fuel : Nat) (listed : Array Bool) (a : Act) (w : World), wpAnyJ P md ops Q S f fuel listed a w → wpAny P md ops Q fuel listed a w
  | 0, _, _, _, h => h
  | fuel + 1, _, _, _, h => ⟨h.1, fun i hi => wpOp_mono (fun a' w' h' => wpAny_of_J fuel _ a' w' h'.2) (h.2 i hi)⟩
/-- the last one waitsJ for it -/
def waitsJ (md : Region.Mode) (ops : Array Oper) (f i : Nat) : Bool := match ops[f]? with | some o => o.after.any fun e => Region.binds md e && e.on == i | none => false
theorem waitsJ_ready {i : Nat} {listed : Array Bool} (h : waitsJ md ops f i = true) (hi : listed.getD i true = false) : f ∉ Region.ready md ops listed := fun hf => by
  obtain ⟨_, o, ho, hall⟩ := mem_ready.1 hf
  unfold waitsJ at h
  rw [ho] at h
  simp only [Array.any_eq_true, Bool.and_eq_true, beq_iff_eq] at h
  obtain ⟨j, hj, hb, e⟩ := h
  have := hall _ (Array.getElem_mem hj) hb
  rw [e] at this
  rcases Nat.lt_or_ge i listed.size with h' | h'
  · simp [h'] at hi this; rw [hi] at this; cases this
  · simp [Array.getElem?_eq_none h'] at this
theorem wpAnyJ_first {i : Nat} {oi : Oper} {v : Value} (hi : ops[i]? = some oi) (hsel : ∀ (j : Nat) (o : Oper) cs b, ops[j]? = some o → o.op ≠ .select cs b)
    (hQ : ∀ c a w, Q (.panic c) (a.put oi.dst v) w → Q (.panic c) a w) (hw : waitsJ md ops f i = true) :
    ∀ (fuel : Nat) (listed : Array Bool) (a : Act) (w : World),
      (∀ j oj, ops[j]? = some oj → j ≠ i → listed.getD j true = false → (∀ e ∈ oj.after, Region.binds md e = true → e.on ≠ i) → oi.apart ops oj = true) →
      i ∈ Region.ready md ops listed → YieldsIf P ops S oi v a → S w →
      wpAnyJ P md ops Q S f fuel (listed.setIfInBounds i true) (a.put oi.dst v) w → wpAnyJ P md ops Q S f (fuel + 1) listed a w := by
  intro fuel
  induction fuel with
  | zero =>
    intro listed a w _ hr hy hS H
    refine ⟨fun h => (by rw [h] at hr; cases hr), fun j hj => ?_⟩
    by_cases hji : j = i
    · subst hji; exact hy.wpOp hi hS ⟨fun _ => hS, H⟩
    · have := ready_mono hj hji
      rw [H.1] at this
      cases this
  | succ fuel ih =>
    intro listed a w hfree hr hy hS H
    refine ⟨fun h => (by rw [h] at hr; cases hr), fun j hj => ?_⟩
    by_cases hji : j = i
    · subst hji; exact hy.wpOp hi hS ⟨fun _ => hS, H⟩
    · have h1 := H.2 j (ready_mono hj hji)
      have hjf : j ≠ f := fun e => waitsJ_ready hw (mem_ready.1 hr).1 (by rw [← e]; exact hj)
      obtain ⟨hjun, oj, hoj, hall⟩ := mem_ready.1 hj
      have hnot : ∀ e ∈ oj.after, Region.binds md e = true → e.on ≠ i := fun e he hb heq => by
        have h1 := hall e he hb
        have h0 := (mem_ready.1 hr).1
        rw [heq] at h1
        rcases Nat.lt_or_ge i listed.size with h' | h'
        · simp [h'] at h0 h1; rw [h0] at h1; cases h1
        · simp [Array.getElem?_eq_none h'] at h1
      have h2 := wpOp_putIf hoj (hfree j oj hoj hji hjun hnot) (fun cs b => hsel i oi cs b hi) (fun cs b => hsel j oj cs b hoj) hQ hy h1
      have hfree' : ∀ k ok, ops[k]? = some ok → k ≠ i → (listed.setIfInBounds j true).getD k true = false →
          (∀ e ∈ ok.after, Region.binds md e = true → e.on ≠ i) → oi.apart ops ok = true := fun k ok hk hki hun hno => by
        refine hfree k ok hk hki ?_ hno
        by_cases hjk : j = k
        · subst hjk; exact hjun
        · rw [getD_set_ne true hjk] at hun; exact hun
      refine wpOp_mono (fun a' w' h3 => ⟨fun _ => h3.2.1 hjf, ih (listed.setIfInBounds j true) a' w' hfree' (ready_mono hr (Ne.symm hji)) h3.1 (h3.2.1 hjf) ?_⟩) h2
      rw [Array.setIfInBounds_comm _ _ hji]
      exact h3.2.2
theorem wpAnyJ_take {i : Nat} {oi : Oper} {v : Value} {fuel : Nat} {listed : Array Bool} {a : Act} {w : World} (hi : ops[i]? = some oi)
    (hs : Region.noSelect ops = true) (hf : Region.free md ops listed i = true) (hr : (Region.ready md ops listed).contains i = true) (hw : waitsJ md ops f i = true)
    (hQ : ∀ c a w, Q (.panic c) (a.put oi.dst v) w → Q (.panic c) a w) (hy : YieldsIf P ops S oi v a) (hS : S w)
    (h : wpAnyJ P md ops Q S f fuel (listed.setIfInBounds i true) (a.put oi.dst v) w) : wpAnyJ P md ops Q S f (fuel + 1) listed a w :=
  wpAnyJ_first hi (Region.noSelect_spec hs) hQ hw fuel listed a w (Region.free_spec hi hf) (by simpa using hr) hy hS h
/-- one alone may come up -/
theorem wpAnyJ_one {i : Nat} {o : Oper} {fuel : Nat} {listed : Array Bool} {a : Act} {w : World} (hr : Region.ready md ops listed = [i]) (ho : ops[i]? = some o) (hwant : Region.wanted o (yielded ops a.tmps) = true)
    (h : ∀ K' : Act → World → Prop, Shut (∀ a w, (i ≠ f → S w) → wpAnyJ P md ops Q S f fuel (listed.setIfInBounds i true) a w → K' a w) → Oper.wp P o a w K' Q) : wpAnyJ P md ops Q S f (fuel + 1) listed a w := by
  refine ⟨fun h0 => (by rw [hr] at h0; cases h0), fun j hj => ?_⟩
  rw [hr, List.mem_singleton] at hj
  subst hj
  exact wpOp_step ho (fun K' hK => by rw [if_pos hwant]; exact h K' (fun a w hS hW => hK a w ⟨hS, hW⟩))
theorem wpAnyJ_done {listed : Array Bool} {a : Act} {w : World} (hr : Region.ready md ops listed = []) (h : Q .normal a w) : ∀ fuel, wpAnyJ P md ops Q S f fuel listed a w
  | 0 => ⟨hr, h⟩
  | _ + 1 => ⟨fun _ => h, by rw [hr]; simp⟩
theorem wp_region_J {id : Nat} {a : Act} {w : World} (f : Nat) (hm : P.follows .mixedOrders = true) (hS : S w.drew)
    (h : S w.drew → wpAnyJ P .any ops Q S f ops.size (Array.replicate ops.size false) a w.drew) : (Code.region id ops true).wp P Q a w :=
  wp_region_any hm (wpAny_of_J _ _ _ _ (h hS))
end
end Go.Proofs.YtmbpckmpnnmnmabGreat
namespace Go.Proofs.YtmbpckmpnnmnmabGreat
open Go.RowKit
namespace Idl
/-- the reference's world, without its laws -/
structure IRaw (w : World) (b : Nat) (l : List Tg) (n : Nat) (S : St) (vt vf : Value) : Prop where
  root : w.heap[b]? = some (.cells #[vt, vf] 71 (0, 0))
  rowT : w.ownsRow 0 90 3 vt l.length (cellsT l)
  rowF : w.ownsRow 0 100 4 vf n (cellsF S n)
  offT : vt.ownBlock ≠ some b
  offF : vf.ownBlock ≠ some b
  apart : ∀ k, vt.ownBlock = some k → vf.ownBlock ≠ some k
section
variable {w w' W : World} {b n : Nat} {S S' : St} {l l' : List Tg} {vt vf : Value}
theorem IRaw.blt (h : IRaw w b l n S vt vf) : b < w.heap.size := (Array.getElem?_eq_some_iff.1 h.root).1
theorem IRaw.lt (h : IRaw w b l n S vt vf) {k : Nat} (hk : iown b vt vf k) : k < w.heap.size := by
  rcases hk with rfl | hk | hk
  · exact h.blt
  · exact (h.rowT.lt k hk).2
  · exact (h.rowF.lt k hk).2
theorem IRaw.keep (h : IRaw w b l n S vt vf) (hk : ∀ k, iown b vt vf k → w'.heap[k]? = w.heap[k]?) : IRaw w' b l n S vt vf :=
  ⟨by rw [hk b (.inl rfl)]; exact h.root, ownsRow_of_block h.rowT (fun k e => hk k (.inr (.inl e))), ownsRow_of_block h.rowF (fun k e => hk k (.inr (.inr e))), h.offT, h.offF, h.apart⟩
theorem IRaw.below (h : IRaw w b l n S vt vf) (hb : Below w.heap.size w w') : IRaw w' b l n S vt vf := h.keep (fun k hk => hb.block k (h.lt hk))
theorem IRaw.setT (h : IRaw w b l n S vt vf) {row : Option Nat} {v : Value} (hg : w.grownBy W row) (hr : row = none ∨ row = vt.ownBlock)
    (ho : W.ownsRow 0 90 3 v l'.length (cellsT l')) (ha : v.ownBlock = vt.ownBlock ∨ ∀ k, v.ownBlock = some k → w.heap.size ≤ k) :
    IRaw (W.setCell ⟨b, 0, none⟩ v) b l' n S v vf ∧ Chg (iown b vt vf) w (W.setCell ⟨b, 0, none⟩ v) ∧ ∀ k, iown b v vf k → iown b vt vf k ∨ w.heap.size ≤ k := by
  have hbr : some b ≠ row := by
    rcases hr with rfl | rfl
    · intro e; cases e
    · exact fun e => h.offT e.symm
  have hb : W.heap[b]? = some (.cells #[vt, vf] 71 (0, 0)) := by rw [hg.block b h.blt hbr]; exact h.root
  have hoth : ∀ k, k ≠ b → (W.setCell ⟨b, 0, none⟩ v).heap[k]? = W.heap[k]? := fun k hk => Below.heap_setCell _ _ _ _ hk
  have hsz : (W.setCell ⟨b, 0, none⟩ v).heap.size = W.heap.size := by simp [World.setCell]
  have hvb : v.ownBlock ≠ some b := by
    rcases ha with e | e
    · rw [e]; exact h.offT
    · intro e2
      have := e b e2
      have := h.blt
      omega
  have hvf : ∀ k, vf.ownBlock = some k → W.heap[k]? = w.heap[k]? := fun k hk => hg.block k (h.rowF.lt k hk).2 (by
    rcases hr with rfl | rfl
    · intro e; cases e
    · exact fun e => h.apart k e.symm hk)
  refine ⟨⟨?_, ownsRow_of_block ho (fun k hk => hoth k (fun e => hvb (by rw [← e]; exact hk))), ?_, hvb, h.offF, fun k hk hk2 => ?_⟩, ⟨?_, ?_, ?_, ?_, fun k hk hn2 => ?_⟩, fun k hk => ?_⟩
  · rw [setCell_eq_setRow W b 0 _ _ _ v hb, setRow_heap W b _ _ _ _ hb]
    rfl
  · exact ownsRow_of_block h.rowF (fun k hk => by rw [hoth k (fun e => h.offF (by rw [← e]; exact hk)), hvf k hk])
  · rcases ha with e | e
    · exact h.apart k (by rw [← e]; exact hk) hk2
    · have := e k hk
      have := (h.rowF.lt k hk2).2
      omega
  · exact hg.os
  · exact hg.tape
  · exact hg.output
  · rw [hsz]; exact hg.size
  · rw [hoth k (fun e => hn2 (.inl e))]
    refine hg.block k hk ?_
    rcases hr with rfl | rfl
    · intro e; cases e
    · exact fun e => hn2 (.inr (.inl e.symm))
  · rcases hk with e | e | e
    · exact .inl (.inl e)
    · rcases ha with e2 | e2
      · exact .inl (.inr (.inl (by rw [← e2]; exact e)))
      · exact .inr (e2 k e)
    · exact .inl (.inr (.inr e))
end
theorem tag_info : ∃ i z, Tryz.prog.info? 90 = some i ∧ i.zero = some z ∧ i.size = 3 ∧ i.bytes = 32 ∧ z.cells.size = 3 := by
  have h : (Tryz.prog.info? 90).map (fun i => (i.zero.map (fun z => z.cells.size), i.size, i.bytes)) = some (some 3, 3, 32) := by kernel_rfl
  cases hq : Tryz.prog.info? 90 with
  | none => rw [hq] at h; cases h
  | some i =>
    rw [hq] at h
    simp only [Option.map_some, Option.some.injEq, Prod.mk.injEq] at h
    cases hz : i.zero with
    | none => rw [hz] at h; cases h.1
    | some z =>
      rw [hz] at h
      simp only [Option.map_some, Option.some.injEq] at h
      exact ⟨i, z, rfl, hz, h.2.1, h.2.2, h.1⟩
theorem row_new (W : World) (xs : List Value) (t : TypeId) : ∀ j u, xs[j]? = some u → (W.alloc (.cells xs.toArray t)).cell? ((⟨W.heap.size, 0, none⟩ : Addr).add j) = some u := fun j u hj => by
  rw [Addr.add_lit, Nat.zero_add, World.cell?_alloc_at _ _ _ _ rfl]
  simpa using hj
end Idl
end Go.Proofs.YtmbpckmpnnmnmabGreat
namespace Go.Proofs.YtmbpckmpnnmnmabGreat
open Go.RowKit
namespace Idl
def RawTo (b : Nat) (vt vf : Value) (W0 W' : World) (l' : List Tg) (n' : Nat) (S' : St) (vt' vf' : Value) : Prop :=
  IRaw W' b l' n' S' vt' vf' ∧ Chg (iown b vt vf) W0 W' ∧ ∀ k, iown b vt' vf' k → iown b vt vf k ∨ W0.heap.size ≤ k
theorem make_raw {W0 W2 : World} {b n : Nat} {S : St} {l : List Tg} {vt vf v' : Value} {ob : Obj} (h : IRaw W0 b l n S vt vf) {d : Int} {s : ByteArray} {k : Nat}
    (ho : W2.ownsRow 0 90 3 v' (l.length + 1) (cellsT l ++ [.int .i64 d, .string s, .int .i64 (k : Nat)])) (hg : (W0.alloc ob).grownBy W2 vt.ownBlock)
    (ha : v'.ownBlock = vt.ownBlock ∨ v'.ownBlock = some (W0.alloc ob).heap.size) : RawTo b vt vf W0 (W2.setCell ⟨b, 0, none⟩ v') (l ++ [⟨d, s, k⟩]) n S v' vf := by
  have hb := (Below.refl W0.heap.size W0).alloc (Nat.le_refl _) ob
  have h1 := h.below hb
  have e := h1.setT (l' := l ++ [⟨d, s, k⟩]) hg (.inr rfl) (by rw [cellsT_add, List.length_append]; exact ho) (by
    rcases ha with z | z
    · exact .inl z
    · exact .inr fun k hk => by rw [z] at hk; cases hk; exact Nat.le_refl _)
  refine ⟨e.1, (Chg.of_below hb).trans e.2.1 (fun i hi => .inl hi), fun i hi => ?_⟩
  rcases e.2.2 i hi with z | z
  · exact .inl z
  · exact .inr (Nat.le_trans hb.size z)
theorem raw_frozen {W0 W2 : World} {b n : Nat} {S : St} {l : List Tg} {vt vf : Value} {ob : Obj} (h : IRaw W0 b l n S vt vf) (hg : (W0.alloc ob).grownBy W2 vt.ownBlock) : W2.frozen? ⟨b, 0, none⟩ = false := by
  refine frozen_of_row W2 b 0 #[vt, vf] 71 ?_
  rw [hg.block b (Nat.lt_of_lt_of_le h.blt (by simp)) (fun e => h.offT e.symm), heap_alloc_old _ _ h.blt]
  exact h.root
theorem run_ld_slT {o : Oper} {ρ : Operand → Value} (x : Operand) (ho : o.op = .load 68 x) {g o0 : Nat} (hx : ρ x = .pointer (some ⟨g, o0, none⟩)) {a : Option Addr} {n c : Nat} (w : World) (h : w.cell? ⟨g, o0, none⟩ = some (.slice a n c)) : (execOp ρ o).run Tryz.prog w = .ok (.value (.slice a n c)) w := by
  unfold execOp
  rw [ho]
  go_simp
theorem wp_st_slT {o : Oper} {a : Act} {K : Act → World → Prop} {Q : Exit → Act → World → Prop} {W : World} (x y : Operand) (ho : o.op = .store 68 x y) (hd : o.dst = none) {g o0 : Nat} {v : Option Addr} {n c : Nat} (hx : a.eval x = .pointer (some ⟨g, o0, none⟩)) (hy : a.eval y = .slice v n c) {u : Value} (hc : W.cell? ⟨g, o0, none⟩ = some u) (hf : W.frozen? ⟨g, o0, none⟩ = false)
    (h : K a (W.setCell ⟨g, o0, none⟩ (.slice v n c))) : o.wp Tryz.prog a W K Q := by
  unfold Oper.wp execOp
  simp only [ho, hx, hy]
  go_simp
  exact h
theorem one_tag (d : Int) (s : ByteArray) (k : Nat) : ∀ u ∈ [Value.int .i64 d, .string s, .int .i64 ((k : Nat) : Int)], u.oneCell' = true := fun u hu => by
  simp only [List.mem_cons, List.not_mem_nil, or_false] at hu
  rcases hu with rfl | rfl | rfl <;> rfl
section
variable {w : World} {b : Nat} {S : St} {l : List Tg} {vt vf : Value}
end
end Idl
end Go.Proofs.YtmbpckmpnnmnmabGreat
namespace Go.Proofs.YtmbpckmpnnmnmabGreat
open Go.RowKit
namespace Idl
/-- the list so far: a row of one's own -/
def LS (w : World) (a : Option Addr) (m cap : Nat) (o : List ByteArray) (W : World) : Prop := W.ownsRow w.heap.size 9 1 (.slice a m cap) m (strs o) ∧ Below w.heap.size w W
/-- another row -/
def Off (a : Option Addr) (v : Value) : Prop := ∀ g, a.map Addr.block = some g → v.ownBlock ≠ some g
section
variable {w W W' : World} {a : Option Addr} {m cap : Nat} {o : List ByteArray}
theorem ownB (a : Option Addr) (m cap : Nat) : (Value.slice a m cap).ownBlock = a.map Addr.block := by cases a <;> rfl
theorem LS.draw (h : LS w a m cap o W) : LS w a m cap o W.drew := ⟨h.1, h.2.drew⟩
theorem LS.alloc (h : LS w a m cap o W) (ob : Obj) : LS w a m cap o (W.alloc ob) := ⟨World.ownsRow.alloc h.1 ob, h.2.alloc h.2.size ob⟩
theorem keepS {v : Value} {n : Nat} {xs : List Value} (h : LS w a m cap o W) (ho : W.ownsRow w.heap.size 9 1 v n xs) (hd : Off a v) (hg : W.grownBy W' v.ownBlock) : LS w a m cap o W' := by
  refine ⟨h.1.kept hg ?_, h.2.grown hg h.2.size (fun k hk => (ho.lt k hk).1)⟩
  cases a with
  | none => exact .inl rfl
  | some ad => exact .inr fun e => hd ad.block rfl (by rw [← e]; rfl)
theorem keepN (h : LS w a m cap o W) (hg : W.grownBy W' (Value.slice none 0 0).ownBlock) : LS w a m cap o W' := by
  refine ⟨h.1.kept hg ?_, h.2.grown hg h.2.size (fun k hk => by cases hk)⟩
  cases a with
  | none => exact .inl rfl
  | some ad => exact .inr fun e => by cases e
theorem keepE {v : Value} (h : LS w a m cap o W) (ha : v.ownBlock = (Value.slice none 0 0).ownBlock ∨ v.ownBlock = some W.heap.size) : Off a v := fun g hg e => by
  have := (h.1.lt g (by rw [ownB]; exact hg)).2
  rcases ha with ha | ha
  · rw [ha] at e; cases e
  · rw [ha] at e; cases e; omega
theorem keepD {v v2 : Value} (h : LS w a m cap o W) (hd : Off a v) (ha : v2.ownBlock = v.ownBlock ∨ v2.ownBlock = some W.heap.size) : Off a v2 := fun g hg e => by
  have := (h.1.lt g (by rw [ownB]; exact hg)).2
  rcases ha with ha | ha
  · exact hd g hg (by rw [← ha]; exact e)
  · rw [ha] at e; cases e; omega
theorem part_new (W : World) (s : ByteArray) : Part (W.alloc (.cells #[.string s] 9)) 1 (.slice (some ⟨W.heap.size, 0, none⟩) 1 1) 1 [.string s] := .inr ⟨_, _, rfl, rfl, one_new _ _ _ _ rfl⟩
theorem own_new {v : Value} {n : Nat} {xs : List Value} (h : W.ownsRow w.heap.size 9 1 v n xs) (ob : Obj) : (W.alloc ob).ownsRow w.heap.size 9 1 v n xs := World.ownsRow.alloc h ob
end
theorem strs_one (o : List ByteArray) : ∀ u ∈ strs o, u.oneCell' = true := fun u hu => by
  obtain ⟨_, _, rfl⟩ := List.mem_map.1 hu
  rfl
theorem strs_ins {o : List ByteArray} {s : ByteArray} {k : Nat} (h : plN o s = k) : strs (insN o s) = (strs o).take (k * 1) ++ [.string s] ++ (strs o).drop (k * 1) := by
  unfold insN strs
  rw [h, Nat.mul_one]
  simp
theorem insN_len {o : List ByteArray} {s : ByteArray} : (insN o s).length = o.length + 1 := by
  unfold insN
  rw [List.length_append, List.length_cons, List.length_take, List.length_drop]
  have : plN o s ≤ o.length := by unfold plN; exact (List.takeWhile_sublist _).length_le
  omega
theorem list_ends {w W : World} {a : Option Addr} {m cap k : Nat} {o X : List ByteArray} {s : ByteArray} {v : Value} (hp : plN o s = k) (hkm : k ≤ m) (hm : m = o.length) (hS : LS w a m cap o W)
    (ho : W.ownsRow w.heap.size 9 1 v (0 + k + 1 + (m - k)) ([] ++ (strs o).take (k * 1) ++ [.string s] ++ (strs o).drop (k * 1))) (hX : X = insN o s) :
    ∃ a m cap o', v = .slice a m cap ∧ m ≤ cap ∧ o' = X ∧ m = o'.length ∧ LS w a m cap o' W := by
  rw [List.nil_append, ← strs_ins hp, show 0 + k + 1 + (m - k) = (insN o s).length by rw [insN_len]; omega] at ho
  obtain ⟨a', cap', rfl, hc⟩ := own_form ho
  exact ⟨a', _, cap', insN o s, rfl, hc, hX.symm, rfl, ho, hS.2⟩
theorem list_cell {w W : World} {a : Option Addr} {m cap k : Nat} {o : List ByteArray} (h : LS w a m cap o W) (hm : m = o.length) (hk : k < m) : ∃ g, a = some ⟨g, 0, none⟩ ∧ W.cell? ⟨g, k, none⟩ = some (.string (o[k]'(by omega))) := by
  rcases h.1.2 with ⟨ev, e0⟩ | ⟨g, cap', cur, ev, _⟩
  · omega
  · simp only [Value.slice.injEq] at ev
    obtain ⟨rfl, _, rfl⟩ := ev
    refine ⟨g, rfl, ?_⟩
    have := h.1.cells (g := g) rfl k (.string (o[k]'(by omega))) (by unfold strs; rw [List.getElem?_map, List.getElem?_eq_getElem (by omega)]; rfl)
    rw [Addr.add_lit, Nat.zero_add] at this
    exact this
set_option maxRecDepth 100000 in
set_option maxHeartbeats 4000000 in
theorem rList_any {b : Nat} {S : St} {l : List Tg} {ta fa : Option Addr} {tc fc : Nat} (hfew : l.length ≤ 1000) (d : Int) (w : World) (h : IRd w b S l ta fa tc fc) :
    Calls Tryz.prog 32 #[.pointer (some ⟨b, 0, none⟩), .int .i64 d] w fun e w' => ∃ v, e = .returned v ∧ w'.ownsRow w.heap.size 9 1 v (namesOf l d []).length (strs (namesOf l d [])) ∧ Below w.heap.size w w' := by
  obtain ⟨i0, hi0, hz0, hz1, hz2⟩ := str_info
  have tv := h.tv
  have lt := h.lt
  have HT := hide h.tags
  obtain ⟨n, hn⟩ : ∃ n, n = l.length := ⟨_, rfl⟩
  have HN := hide hn
  rw [← hn] at tv hfew
  have HD := hide (show namesOf (l.take n) d [] = namesOf l d [] by rw [hn, List.take_of_length_le (Nat.le_refl _)])
  clear h hn
  go_enter Tryz.func32, Tryz.ntmps32
  go_wp2_with fail
  go_loopw [5, 6] (fun v i wr => ∃ k : Nat, k ≤ n ∧ i = .int .i64 k ∧ ∃ a m cap o, v = .slice a m cap ∧ m ≤ cap ∧ o = namesOf (l.take k) d [] ∧ m = o.length ∧ LS w a m cap o wr) (fun _ i _ => n - (intOf i).toNat)
  case atStart => exact ⟨0, Nat.zero_le _, rfl, none, 0, 0, [], rfl, Nat.le_refl _, by simp [namesOf], rfl, World.ownsRow_nil _ _ _ _, Below.refl _ _⟩
  case round =>
    rename_i wr
    obtain ⟨kk, hk, rfl, a, m, cap, o, rfl, hmc, ho, hm, hS0⟩ := hrel
    have tw : wr.cell? ⟨b, 0, none⟩ = some (.slice ta n tc) := (hS0.2.cell (p := ⟨b, 0, none⟩) lt).trans tv
    have ltw : b < wr.heap.size := Nat.lt_of_lt_of_le lt hS0.2.size
    by_cases hlt : kk < n
    · have tn : decide ((kk : Int) < (n : Int)) = true := by simp; omega
      have kz : (kk : Int) < (n : Int) := by omega
      have hkl : kk < l.length := by have := unhide HN; omega
      obtain ⟨g, og, rfl, hg, c0, c1, _⟩ := unhide HT kk hkl
      have d0 := (hS0.2.cell (p := ⟨g, og + kk * 3, none⟩) hg).trans c0
      have d1 := (hS0.2.cell (p := ⟨g, og + kk * 3 + 1, none⟩) hg).trans c1
      have MORE := hide (namesOf_more hkl d)
      rw [← ho] at MORE
      have hml : m ≤ 1000 := by
        have := namesOf_len (l.take kk) d []
        rw [← ho, ← hm, List.length_take] at this
        simp only [List.length_nil] at this
        omega
      have HM := hide hm
      clear c0 c1 hm ho
      generalize l[kk].name = s at d1 MORE
      generalize l[kk].dir = dd at d0 MORE
      cases h1 : (dd != d)
      · have hin : dd = d := by simpa using h1
        rw [if_pos hin] at MORE
        clear hin
        go_wp2_with fail
        try (go_quiet (fail); go_wp2_with fail)
        clear d0 d1 tw h1
        go_loopw [9] (fun i wx => ∃ k : Nat, k ≤ m ∧ i = .int .i64 k ∧ Hid (∀ j (hj : j < o.length), j < k → Idl.lt o[j] s = true) ∧ wx = wr) (fun i _ => m - (intOf i).toNat)
        case atStart => exact ⟨0, Nat.zero_le _, rfl, hide fun j hj h => by omega, rfl⟩
        case round =>
          obtain ⟨k, hkm, rfl, HA, rfl⟩ := hrel
          by_cases hlk : k < m
          · have tk : decide ((k : Int) < (m : Int)) = true := by simp; omega
            have kzz : (k : Int) < (m : Int) := by omega
            obtain ⟨go, rfl, co⟩ := list_cell hS0 (unhide HM) hlk
            have hko : k < o.length := by have := unhide HM; omega
            have EL := hide (show Idl.lt o[k] s = Op.bytesLess (o[k]).toList s.toList from rfl)
            have NX := hide (fun (h : Idl.lt o[k] s = true) => (fun j (hj : j < o.length) (hjk : j < k + 1) => by
              by_cases e : j = k
              · subst e; exact h
              · exact unhide HA j hj (by omega) : ∀ j (hj : j < o.length), j < k + 1 → Idl.lt o[j] s = true))
            have YES := hide (fun (h : Idl.lt o[k] s = false) => plN_at (k := k) (by omega) (unhide HA) (fun _ => h))
            generalize o[k] = ok at co EL NX YES
            cases h2 : Op.bytesLess ok.toList s.toList
            · have hpl := unhide YES (by rw [unhide EL, h2])
              clear NX YES HA EL
              go_wp2_with fail
              try (go_quiet (fail); go_wp2_with fail)
              obtain ⟨a, ha⟩ : ∃ a, a = some (⟨go, 0, none⟩ : Addr) := ⟨_, rfl⟩
              rw [← ha] at hS0 ⊢
              clear ha co h2
              obtain ⟨xl, hxl⟩ : ∃ x, x = sliced a 0 k cap 1 := ⟨_, rfl⟩
              obtain ⟨xh, hxh⟩ : ∃ x, x = sliced a k m cap 1 := ⟨_, rfl⟩
              have HXL := hide hxl
              have HXH := hide hxh
              clear hxl hxh
              refine wp_region_held_drew (S := LS w a m cap o) (by kernel_rfl) (LS.draw hS0) (fun hS => ?_)
              refine tkP (i := 0) (oi := ⟨some 51, .move (.tmp 8), 60, "base.go:439", #[], none⟩) (v := .slice none 0 0) hS ?_
              refine tkP (i := 1) (oi := ⟨some 52, .move (.tmp 5), 60, "base.go:439", #[], none⟩) (v := .slice a m cap) hS ?_
              refine tkP (i := 2) (oi := ⟨some 53, .move (.tmp 9), 3, "base.go:439", #[], none⟩) (v := .int .i64 k) hS ?_
              refine tkH (i := 3) (oi := ⟨some 54, .slice 60 (.tmp 52) none (some (.tmp 53)) none, 60, "base.go:439", #[⟨1, .data⟩, ⟨2, .data⟩], none⟩) (v := xl) (fun W h => (by rw [unhide HXL]; exact run_exec_cut_lo (m := m) (.tmp 52) (.tmp 53) 60 (by kernel_rfl) (by kernel_rfl) (by kernel_rfl) (by omega) Tryz.underlying60 (by kernel_rfl) W)) hS ?_
              refine tkP (i := 5) (oi := ⟨some 56, .move (.tmp 7), 9, "base.go:439", #[], none⟩) (v := .string s) hS ?_
              refine tkP (i := 8) (oi := ⟨some 59, .move (.tmp 5), 60, "base.go:439", #[], none⟩) (v := .slice a m cap) hS ?_
              refine tkP (i := 9) (oi := ⟨some 60, .move (.tmp 9), 3, "base.go:439", #[], none⟩) (v := .int .i64 k) hS ?_
              refine tkH (i := 10) (oi := ⟨some 61, .slice 60 (.tmp 59) (some (.tmp 60)) none none, 60, "base.go:439", #[⟨8, .data⟩, ⟨9, .data⟩], none⟩) (v := xh) (fun W h => (by rw [unhide HXH]; exact run_exec_cut_hi (m := m) (.tmp 59) (.tmp 60) 60 (by kernel_rfl) (by kernel_rfl) (by kernel_rfl) hkm Tryz.underlying60 (by kernel_rfl) W)) hS ?_
              generalize World.drew _ = W0 at hS ⊢
              refine wpAnyH_ready (rs := [4, 6]) (by kernel_rfl) (by simp) ?_
              refine AllReadyH.cons (o := ⟨some 55, .call { callee := .builtin .append, args := #[.tmp 51, .tmp 54], argTypes := #[60, 60] }, 60, "base.go:439", #[⟨0, .data⟩, ⟨3, .data⟩], none⟩) rfl (fun K hK => ?_) (AllReadyH.cons (o := ⟨some 57, .buildSlice 60 1 #[(0, .tmp 56)], 60, "base.go:439", #[⟨5, .data⟩], none⟩) rfl (fun K hK => ?_) AllReadyH.nil)
              · skip
                rw [if_pos (by kernel_rfl)]
                refine wp_append_part (.tmp 51) (.tmp 54) (by kernel_rfl) Tryz.underlying60 hi0 hz0 hz1 hz2 rfl (by omega) (by kernel_rfl) (World.ownsRow_nil _ _ _ _) (by kernel_rfl) (show Part _ 1 xl k ((strs o).take (k * 1)) by rw [unhide HXL]; exact part_lo hS.1 hkm) (fun u hu => strs_one o u (List.mem_of_mem_take hu)) (by unfold maxLen; omega) (by omega) hS.2.size ?_
                intro v1 W1 ho1 hg1 ha1
                have hS1 := keepN hS hg1
                have hd1 := keepE hS ha1
                refine hK.out _ _ hS1 (fun _ => ?_)
                clear hK K
                refine wpAnyH_ready (rs := [6]) (by kernel_rfl) (by simp) ?_
                refine AllReadyH.cons (o := ⟨some 57, .buildSlice 60 1 #[(0, .tmp 56)], 60, "base.go:439", #[⟨5, .data⟩], none⟩) rfl (fun K hK => ?_) AllReadyH.nil
                rw [if_pos (by kernel_rfl)]
                go_simp
                have hS2 := LS.alloc hS1 (.cells #[.string s] 9)
                have hp6 := part_new W1 s
                replace ho1 := own_new ho1 (.cells #[.string s] 9)
                refine hK.out _ _ hS2 (fun _ => ?_)
                clear hK K
                refine wpAnyH_ready (rs := [7]) (by kernel_rfl) (by simp) ?_
                refine AllReadyH.cons (o := ⟨some 58, .call { callee := .builtin .append, args := #[.tmp 55, .tmp 57], argTypes := #[60, 60] }, 60, "base.go:439", #[⟨4, .data⟩, ⟨6, .data⟩, ⟨4, .chain⟩], none⟩) rfl (fun K hK => ?_) AllReadyH.nil
                rw [if_pos (by kernel_rfl)]
                refine wp_append_part (.tmp 55) (.tmp 57) (by kernel_rfl) Tryz.underlying60 hi0 hz0 hz1 hz2 rfl (by omega) (by kernel_rfl) ho1 (by kernel_rfl) hp6 (one_str s) (by unfold maxLen; omega) (by omega) hS2.2.size ?_
                intro v2 W3 ho2 hg2 ha2
                have hS3 := keepS hS2 ho1 hd1 hg2
                have hd2 := keepD hS2 hd1 ha2
                refine hK.out _ _ hS3 (fun _ => ?_)
                clear hK K
                refine wpAnyH_ready (rs := [11]) (by kernel_rfl) (by simp) ?_
                refine AllReadyH.cons (o := ⟨some 62, .call { callee := .builtin .append, args := #[.tmp 58, .tmp 61], argTypes := #[60, 60] }, 60, "base.go:439", #[⟨7, .data⟩, ⟨10, .data⟩, ⟨7, .chain⟩], none⟩) rfl (fun K hK => ?_) AllReadyH.nil
                rw [if_pos (by kernel_rfl)]
                refine wp_append_part (.tmp 58) (.tmp 61) (by kernel_rfl) Tryz.underlying60 hi0 hz0 hz1 hz2 rfl (by omega) (by kernel_rfl) ho2 (by kernel_rfl) (show Part _ 1 xh (m - k) ((strs o).drop (k * 1)) by rw [unhide HXH]; exact part_hi hS3.1 hkm) (fun u hu => strs_one o u (List.mem_of_mem_drop hu)) (by unfold maxLen; omega) (by omega) hS3.2.size ?_
                intro v3 W4 ho3 hg3 _
                have hS4 := keepS hS3 ho2 hd2 hg3
                refine hK.out _ _ hS4 (fun _ => ?_)
                clear hK K
                refine tkH (i := 12) (oi := ⟨some 8, .assign (.tmp 62), 60, "base.go:439", #[⟨11, .data⟩, ⟨11, .chain⟩, ⟨0, .phase⟩, ⟨1, .phase⟩, ⟨2, .phase⟩, ⟨3, .phase⟩, ⟨4, .phase⟩, ⟨5, .phase⟩, ⟨6, .phase⟩, ⟨7, .phase⟩, ⟨8, .phase⟩, ⟨9, .phase⟩, ⟨10, .phase⟩, ⟨11, .phase⟩], none⟩) (v := v3) (fun W h => (by kernel_rfl)) hS4 ?_
                refine wpAnyH_done (by kernel_rfl) ?_ _
                simp only [Act.put, List.setIfInBounds_toArray, List.set_cons_zero, List.set_cons_succ]
                have HF := hide (list_ends hpl hkm (unhide HM) hS4 ho3 (unhide MORE))
                clear hS4 ho3 hS3 ho2 hg2 hg3 hd2 ha2
                go_wp2_with fail
                go_roundw
                case rel => exact ⟨kk + 1, by omega, by go_num, unhide HF⟩
                case measure => simp [intOf]; omega
              · skip
                rw [if_pos (by kernel_rfl)]
                go_simp
                have hS1 := LS.alloc hS (.cells #[.string s] 9)
                have hp5 := part_new W0 s
                refine hK.out _ _ hS1 (fun _ => ?_)
                clear hK K
                refine wpAnyH_ready (rs := [4]) (by kernel_rfl) (by simp) ?_
                refine AllReadyH.cons (o := ⟨some 55, .call { callee := .builtin .append, args := #[.tmp 51, .tmp 54], argTypes := #[60, 60] }, 60, "base.go:439", #[⟨0, .data⟩, ⟨3, .data⟩], none⟩) rfl (fun K hK => ?_) AllReadyH.nil
                rw [if_pos (by kernel_rfl)]
                refine wp_append_part (.tmp 51) (.tmp 54) (by kernel_rfl) Tryz.underlying60 hi0 hz0 hz1 hz2 rfl (by omega) (by kernel_rfl) (World.ownsRow_nil _ _ _ _) (by kernel_rfl) (show Part _ 1 xl k ((strs o).take (k * 1)) by rw [unhide HXL]; exact part_lo hS1.1 hkm) (fun u hu => strs_one o u (List.mem_of_mem_take hu)) (by unfold maxLen; omega) (by omega) hS1.2.size ?_
                intro v1 W2 ho1 hg1 ha1
                have hS2 := keepN hS1 hg1
                have hd1 := keepE hS1 ha1
                have hp6 := hp5.grown (B := 0) (fun j hj _ => hg1.block j hj (by intro h; cases h)) (Nat.zero_le _) (by simp)
                refine hK.out _ _ hS2 (fun _ => ?_)
                clear hK K
                refine wpAnyH_ready (rs := [7]) (by kernel_rfl) (by simp) ?_
                refine AllReadyH.cons (o := ⟨some 58, .call { callee := .builtin .append, args := #[.tmp 55, .tmp 57], argTypes := #[60, 60] }, 60, "base.go:439", #[⟨4, .data⟩, ⟨6, .data⟩, ⟨4, .chain⟩], none⟩) rfl (fun K hK => ?_) AllReadyH.nil
                rw [if_pos (by kernel_rfl)]
                refine wp_append_part (.tmp 55) (.tmp 57) (by kernel_rfl) Tryz.underlying60 hi0 hz0 hz1 hz2 rfl (by omega) (by kernel_rfl) ho1 (by kernel_rfl) hp6 (one_str s) (by unfold maxLen; omega) (by omega) hS2.2.size ?_
                intro v2 W3 ho2 hg2 ha2
                have hS3 := keepS hS2 ho1 hd1 hg2
                have hd2 := keepD hS2 hd1 ha2
                refine hK.out _ _ hS3 (fun _ => ?_)
                clear hK K
                refine wpAnyH_ready (rs := [11]) (by kernel_rfl) (by simp) ?_
                refine AllReadyH.cons (o := ⟨some 62, .call { callee := .builtin .append, args := #[.tmp 58, .tmp 61], argTypes := #[60, 60] }, 60, "base.go:439", #[⟨7, .data⟩, ⟨10, .data⟩, ⟨7, .chain⟩], none⟩) rfl (fun K hK => ?_) AllReadyH.nil
                rw [if_pos (by kernel_rfl)]
                refine wp_append_part (.tmp 58) (.tmp 61) (by kernel_rfl) Tryz.underlying60 hi0 hz0 hz1 hz2 rfl (by omega) (by kernel_rfl) ho2 (by kernel_rfl) (show Part _ 1 xh (m - k) ((strs o).drop (k * 1)) by rw [unhide HXH]; exact part_hi hS3.1 hkm) (fun u hu => strs_one o u (List.mem_of_mem_drop hu)) (by unfold maxLen; omega) (by omega) hS3.2.size ?_
                intro v3 W4 ho3 hg3 _
                have hS4 := keepS hS3 ho2 hd2 hg3
                refine hK.out _ _ hS4 (fun _ => ?_)
                clear hK K
                refine tkH (i := 12) (oi := ⟨some 8, .assign (.tmp 62), 60, "base.go:439", #[⟨11, .data⟩, ⟨11, .chain⟩, ⟨0, .phase⟩, ⟨1, .phase⟩, ⟨2, .phase⟩, ⟨3, .phase⟩, ⟨4, .phase⟩, ⟨5, .phase⟩, ⟨6, .phase⟩, ⟨7, .phase⟩, ⟨8, .phase⟩, ⟨9, .phase⟩, ⟨10, .phase⟩, ⟨11, .phase⟩], none⟩) (v := v3) (fun W h => (by kernel_rfl)) hS4 ?_
                refine wpAnyH_done (by kernel_rfl) ?_ _
                simp only [Act.put, List.setIfInBounds_toArray, List.set_cons_zero, List.set_cons_succ]
                have HF := hide (list_ends hpl hkm (unhide HM) hS4 ho3 (unhide MORE))
                clear hS4 ho3 hS3 ho2 hg2 hg3 hd2 ha2
                go_wp2_with fail
                go_roundw
                case rel => exact ⟨kk + 1, by omega, by go_num, unhide HF⟩
                case measure => simp [intOf]; omega
            · have W := hide (unhide NX (by rw [unhide EL, h2]))
              clear NX YES HA EL
              go_wp2_with fail
              try (go_quiet (fail); go_wp2_with fail)
              go_roundw
              case rel => exact ⟨k + 1, by omega, by go_num, W, trivial⟩
              case measure => simp [intOf]; omega
          · have tk : decide ((k : Int) < (m : Int)) = false := by simp; omega
            have hpl : plN o s = k := plN_at (by have := unhide HM; omega) (unhide HA) (fun hj => by have := unhide HM; omega)
            clear HA
            go_wp2_with fail
            try (go_quiet (fail); go_wp2_with fail)
            obtain ⟨xl, hxl⟩ : ∃ x, x = sliced a 0 k cap 1 := ⟨_, rfl⟩
            obtain ⟨xh, hxh⟩ : ∃ x, x = sliced a k m cap 1 := ⟨_, rfl⟩
            have HXL := hide hxl
            have HXH := hide hxh
            clear hxl hxh
            refine wp_region_held_drew (S := LS w a m cap o) (by kernel_rfl) (LS.draw hS0) (fun hS => ?_)
            refine tkP (i := 0) (oi := ⟨some 51, .move (.tmp 8), 60, "base.go:439", #[], none⟩) (v := .slice none 0 0) hS ?_
            refine tkP (i := 1) (oi := ⟨some 52, .move (.tmp 5), 60, "base.go:439", #[], none⟩) (v := .slice a m cap) hS ?_
            refine tkP (i := 2) (oi := ⟨some 53, .move (.tmp 9), 3, "base.go:439", #[], none⟩) (v := .int .i64 k) hS ?_
            refine tkH (i := 3) (oi := ⟨some 54, .slice 60 (.tmp 52) none (some (.tmp 53)) none, 60, "base.go:439", #[⟨1, .data⟩, ⟨2, .data⟩], none⟩) (v := xl) (fun W h => (by rw [unhide HXL]; exact run_exec_cut_lo (m := m) (.tmp 52) (.tmp 53) 60 (by kernel_rfl) (by kernel_rfl) (by kernel_rfl) (by omega) Tryz.underlying60 (by kernel_rfl) W)) hS ?_
            refine tkP (i := 5) (oi := ⟨some 56, .move (.tmp 7), 9, "base.go:439", #[], none⟩) (v := .string s) hS ?_
            refine tkP (i := 8) (oi := ⟨some 59, .move (.tmp 5), 60, "base.go:439", #[], none⟩) (v := .slice a m cap) hS ?_
            refine tkP (i := 9) (oi := ⟨some 60, .move (.tmp 9), 3, "base.go:439", #[], none⟩) (v := .int .i64 k) hS ?_
            refine tkH (i := 10) (oi := ⟨some 61, .slice 60 (.tmp 59) (some (.tmp 60)) none none, 60, "base.go:439", #[⟨8, .data⟩, ⟨9, .data⟩], none⟩) (v := xh) (fun W h => (by rw [unhide HXH]; exact run_exec_cut_hi (m := m) (.tmp 59) (.tmp 60) 60 (by kernel_rfl) (by kernel_rfl) (by kernel_rfl) hkm Tryz.underlying60 (by kernel_rfl) W)) hS ?_
            generalize World.drew _ = W0 at hS ⊢
            refine wpAnyH_ready (rs := [4, 6]) (by kernel_rfl) (by simp) ?_
            refine AllReadyH.cons (o := ⟨some 55, .call { callee := .builtin .append, args := #[.tmp 51, .tmp 54], argTypes := #[60, 60] }, 60, "base.go:439", #[⟨0, .data⟩, ⟨3, .data⟩], none⟩) rfl (fun K hK => ?_) (AllReadyH.cons (o := ⟨some 57, .buildSlice 60 1 #[(0, .tmp 56)], 60, "base.go:439", #[⟨5, .data⟩], none⟩) rfl (fun K hK => ?_) AllReadyH.nil)
            · skip
              rw [if_pos (by kernel_rfl)]
              refine wp_append_part (.tmp 51) (.tmp 54) (by kernel_rfl) Tryz.underlying60 hi0 hz0 hz1 hz2 rfl (by omega) (by kernel_rfl) (World.ownsRow_nil _ _ _ _) (by kernel_rfl) (show Part _ 1 xl k ((strs o).take (k * 1)) by rw [unhide HXL]; exact part_lo hS.1 hkm) (fun u hu => strs_one o u (List.mem_of_mem_take hu)) (by unfold maxLen; omega) (by omega) hS.2.size ?_
              intro v1 W1 ho1 hg1 ha1
              have hS1 := keepN hS hg1
              have hd1 := keepE hS ha1
              refine hK.out _ _ hS1 (fun _ => ?_)
              clear hK K
              refine wpAnyH_ready (rs := [6]) (by kernel_rfl) (by simp) ?_
              refine AllReadyH.cons (o := ⟨some 57, .buildSlice 60 1 #[(0, .tmp 56)], 60, "base.go:439", #[⟨5, .data⟩], none⟩) rfl (fun K hK => ?_) AllReadyH.nil
              rw [if_pos (by kernel_rfl)]
              go_simp
              have hS2 := LS.alloc hS1 (.cells #[.string s] 9)
              have hp6 := part_new W1 s
              replace ho1 := own_new ho1 (.cells #[.string s] 9)
              refine hK.out _ _ hS2 (fun _ => ?_)
              clear hK K
              refine wpAnyH_ready (rs := [7]) (by kernel_rfl) (by simp) ?_
              refine AllReadyH.cons (o := ⟨some 58, .call { callee := .builtin .append, args := #[.tmp 55, .tmp 57], argTypes := #[60, 60] }, 60, "base.go:439", #[⟨4, .data⟩, ⟨6, .data⟩, ⟨4, .chain⟩], none⟩) rfl (fun K hK => ?_) AllReadyH.nil
              rw [if_pos (by kernel_rfl)]
              refine wp_append_part (.tmp 55) (.tmp 57) (by kernel_rfl) Tryz.underlying60 hi0 hz0 hz1 hz2 rfl (by omega) (by kernel_rfl) ho1 (by kernel_rfl) hp6 (one_str s) (by unfold maxLen; omega) (by omega) hS2.2.size ?_
              intro v2 W3 ho2 hg2 ha2
              have hS3 := keepS hS2 ho1 hd1 hg2
              have hd2 := keepD hS2 hd1 ha2
              refine hK.out _ _ hS3 (fun _ => ?_)
              clear hK K
              refine wpAnyH_ready (rs := [11]) (by kernel_rfl) (by simp) ?_
              refine AllReadyH.cons (o := ⟨some 62, .call { callee := .builtin .append, args := #[.tmp 58, .tmp 61], argTypes := #[60, 60] }, 60, "base.go:439", #[⟨7, .data⟩, ⟨10, .data⟩, ⟨7, .chain⟩], none⟩) rfl (fun K hK => ?_) AllReadyH.nil
              rw [if_pos (by kernel_rfl)]
              refine wp_append_part (.tmp 58) (.tmp 61) (by kernel_rfl) Tryz.underlying60 hi0 hz0 hz1 hz2 rfl (by omega) (by kernel_rfl) ho2 (by kernel_rfl) (show Part _ 1 xh (m - k) ((strs o).drop (k * 1)) by rw [unhide HXH]; exact part_hi hS3.1 hkm) (fun u hu => strs_one o u (List.mem_of_mem_drop hu)) (by unfold maxLen; omega) (by omega) hS3.2.size ?_
              intro v3 W4 ho3 hg3 _
              have hS4 := keepS hS3 ho2 hd2 hg3
              refine hK.out _ _ hS4 (fun _ => ?_)
              clear hK K
              refine tkH (i := 12) (oi := ⟨some 8, .assign (.tmp 62), 60, "base.go:439", #[⟨11, .data⟩, ⟨11, .chain⟩, ⟨0, .phase⟩, ⟨1, .phase⟩, ⟨2, .phase⟩, ⟨3, .phase⟩, ⟨4, .phase⟩, ⟨5, .phase⟩, ⟨6, .phase⟩, ⟨7, .phase⟩, ⟨8, .phase⟩, ⟨9, .phase⟩, ⟨10, .phase⟩, ⟨11, .phase⟩], none⟩) (v := v3) (fun W h => (by kernel_rfl)) hS4 ?_
              refine wpAnyH_done (by kernel_rfl) ?_ _
              simp only [Act.put, List.setIfInBounds_toArray, List.set_cons_zero, List.set_cons_succ]
              have HF := hide (list_ends hpl hkm (unhide HM) hS4 ho3 (unhide MORE))
              clear hS4 ho3 hS3 ho2 hg2 hg3 hd2 ha2
              go_wp2_with fail
              go_roundw
              case rel => exact ⟨kk + 1, by omega, by go_num, unhide HF⟩
              case measure => simp [intOf]; omega
            · skip
              rw [if_pos (by kernel_rfl)]
              go_simp
              have hS1 := LS.alloc hS (.cells #[.string s] 9)
              have hp5 := part_new W0 s
              refine hK.out _ _ hS1 (fun _ => ?_)
              clear hK K
              refine wpAnyH_ready (rs := [4]) (by kernel_rfl) (by simp) ?_
              refine AllReadyH.cons (o := ⟨some 55, .call { callee := .builtin .append, args := #[.tmp 51, .tmp 54], argTypes := #[60, 60] }, 60, "base.go:439", #[⟨0, .data⟩, ⟨3, .data⟩], none⟩) rfl (fun K hK => ?_) AllReadyH.nil
              rw [if_pos (by kernel_rfl)]
              refine wp_append_part (.tmp 51) (.tmp 54) (by kernel_rfl) Tryz.underlying60 hi0 hz0 hz1 hz2 rfl (by omega) (by kernel_rfl) (World.ownsRow_nil _ _ _ _) (by kernel_rfl) (show Part _ 1 xl k ((strs o).take (k * 1)) by rw [unhide HXL]; exact part_lo hS1.1 hkm) (fun u hu => strs_one o u (List.mem_of_mem_take hu)) (by unfold maxLen; omega) (by omega) hS1.2.size ?_
              intro v1 W2 ho1 hg1 ha1
              have hS2 := keepN hS1 hg1
              have hd1 := keepE hS1 ha1
              have hp6 := hp5.grown (B := 0) (fun j hj _ => hg1.block j hj (by intro h; cases h)) (Nat.zero_le _) (by simp)
              refine hK.out _ _ hS2 (fun _ => ?_)
              clear hK K
              refine wpAnyH_ready (rs := [7]) (by kernel_rfl) (by simp) ?_
              refine AllReadyH.cons (o := ⟨some 58, .call { callee := .builtin .append, args := #[.tmp 55, .tmp 57], argTypes := #[60, 60] }, 60, "base.go:439", #[⟨4, .data⟩, ⟨6, .data⟩, ⟨4, .chain⟩], none⟩) rfl (fun K hK => ?_) AllReadyH.nil
              rw [if_pos (by kernel_rfl)]
              refine wp_append_part (.tmp 55) (.tmp 57) (by kernel_rfl) Tryz.underlying60 hi0 hz0 hz1 hz2 rfl (by omega) (by kernel_rfl) ho1 (by kernel_rfl) hp6 (one_str s) (by unfold maxLen; omega) (by omega) hS2.2.size ?_
              intro v2 W3 ho2 hg2 ha2
              have hS3 := keepS hS2 ho1 hd1 hg2
              have hd2 := keepD hS2 hd1 ha2
              refine hK.out _ _ hS3 (fun _ => ?_)
              clear hK K
              refine wpAnyH_ready (rs := [11]) (by kernel_rfl) (by simp) ?_
              refine AllReadyH.cons (o := ⟨some 62, .call { callee := .builtin .append, args := #[.tmp 58, .tmp 61], argTypes := #[60, 60] }, 60, "base.go:439", #[⟨7, .data⟩, ⟨10, .data⟩, ⟨7, .chain⟩], none⟩) rfl (fun K hK => ?_) AllReadyH.nil
              rw [if_pos (by kernel_rfl)]
              refine wp_append_part (.tmp 58) (.tmp 61) (by kernel_rfl) Tryz.underlying60 hi0 hz0 hz1 hz2 rfl (by omega) (by kernel_rfl) ho2 (by kernel_rfl) (show Part _ 1 xh (m - k) ((strs o).drop (k * 1)) by rw [unhide HXH]; exact part_hi hS3.1 hkm) (fun u hu => strs_one o u (List.mem_of_mem_drop hu)) (by unfold maxLen; omega) (by omega) hS3.2.size ?_
              intro v3 W4 ho3 hg3 _
              have hS4 := keepS hS3 ho2 hd2 hg3
              refine hK.out _ _ hS4 (fun _ => ?_)
              clear hK K
              refine tkH (i := 12) (oi := ⟨some 8, .assign (.tmp 62), 60, "base.go:439", #[⟨11, .data⟩, ⟨11, .chain⟩, ⟨0, .phase⟩, ⟨1, .phase⟩, ⟨2, .phase⟩, ⟨3, .phase⟩, ⟨4, .phase⟩, ⟨5, .phase⟩, ⟨6, .phase⟩, ⟨7, .phase⟩, ⟨8, .phase⟩, ⟨9, .phase⟩, ⟨10, .phase⟩, ⟨11, .phase⟩], none⟩) (v := v3) (fun W h => (by kernel_rfl)) hS4 ?_
              refine wpAnyH_done (by kernel_rfl) ?_ _
              simp only [Act.put, List.setIfInBounds_toArray, List.set_cons_zero, List.set_cons_succ]
              have HF := hide (list_ends hpl hkm (unhide HM) hS4 ho3 (unhide MORE))
              clear hS4 ho3 hS3 ho2 hg2 hg3 hd2 ha2
              go_wp2_with fail
              go_roundw
              case rel => exact ⟨kk + 1, by omega, by go_num, unhide HF⟩
              case measure => simp [intOf]; omega
      · have hin : ¬ dd = d := by simpa using h1
        rw [if_neg hin] at MORE
        clear hin
        go_wp2_with fail
        try (go_quiet (fail); go_wp2_with fail)
        go_roundw
        case rel => exact ⟨kk + 1, by omega, by go_num, a, m, cap, o, rfl, hmc, (unhide MORE).symm, unhide HM, hS0⟩
        case measure => simp [intOf]; omega
    · have tn : decide ((kk : Int) < (n : Int)) = false := by simp; omega
      have ek : kk = n := by omega
      go_wp2_with fail
      go_ret
      refine ⟨_, rfl, ?_, hS0.2⟩
      have := hS0.1
      rw [ek, unhide HD] at ho
      rw [← ho, ← hm]
      exact this
end Idl
end Go.Proofs.YtmbpckmpnnmnmabGreat
namespace Go.Proofs.YtmbpckmpnnmnmabGreat
open Go.RowKit
open Idl (Stp chk stpA strs Tg)
theorem HasAt.blk {w w' : World} {b o : Nat} {m : Img} (h : HasAt w b o m) (e : w'.heap[b]? = w.heap[b]?) : HasAt w' b o m := by
  have hc : ∀ j, w'.cell? ⟨b, j, none⟩ = w.cell? ⟨b, j, none⟩ := fun j => World.cell?_of_block e
  have hl : b < w'.heap.size := by
    have h1 := Array.getElem?_eq_getElem h.lt
    rw [← e] at h1
    exact (Array.getElem?_eq_some_iff.1 h1).1
  exact ⟨hl, fun n h1 => by rw [hc]; exact h.live n h1, fun n h1 => by rw [hc]; exact h.stamp n h1, fun n h1 => by rw [hc]; exact h.links n h1,
    fun n p h1 h2 => by rw [hc]; exact h.part n p h1 h2, fun d s h1 h2 => by rw [hc]; exact h.name d s h1 h2, fun d s h1 h2 => by rw [hc]; exact h.ino d s h1 h2,
    fun d s h1 h2 => by rw [hc]; exact h.est d s h1 h2, fun x h1 => by rw [hc]; exact h.of x h1, fun x h1 => by rw [hc]; exact h.text x h1, h.small, h.short⟩
namespace Idl
/-- the tags that List lays: the names of the slots so far -/
def btags (m : Img) (d s : Nat) : List Tg := (Img.rawN m d s).map fun nm => ⟨(d : Int), nm, 0⟩
theorem btags_yes {m : Img} {d s : Nat} (h : m.named d s = true) : btags m d (s + 1) = btags m d s ++ [⟨(d : Int), m.name d s, 0⟩] := by
  unfold btags
  rw [show Img.rawN m d (s + 1) = Img.rawN m d s ++ (if m.named d s then [m.name d s] else []) from rfl, if_pos h, List.map_append]; rfl
theorem btags_no {m : Img} {d s : Nat} (h : m.named d s = false) : btags m d (s + 1) = btags m d s := by
  unfold btags
  rw [show Img.rawN m d (s + 1) = Img.rawN m d s ++ (if m.named d s then [m.name d s] else []) from rfl, h]
  simp
theorem btags_len (m : Img) (d s : Nat) : (btags m d s).length ≤ s := by
  unfold btags; rw [List.length_map]; exact Img.rawN_len m d s
theorem btags_names {m : Img} (hm : m.check = 0) {d : Nat} (hd : d < 3) : namesOf (btags m d 4) (d : Int) [] = Img.snames m (d : Int) := by
  have nd := Img.rawN_nodup hm hd (Nat.le_refl 4)
  obtain ⟨h1, h2⟩ := namesOf_ok (btags m d 4) (d : Int) [] List.Pairwise.nil (by
    unfold btags
    rw [List.pairwise_map]
    exact nd.imp (fun h z => h z.2)) (fun _ _ _ hz => by cases hz)
  unfold Img.snames
  rw [if_pos (by omega), Int.toNat_natCast]
  refine riseN_ext h1 (sortN_rise nd) (fun s => ?_)
  rw [h2, sortN_mem nd]
  unfold btags
  constructor
  · rintro (z | ⟨t, ht, _, rfl⟩)
    · cases z
    · obtain ⟨nm, hn, rfl⟩ := List.mem_map.1 ht
      exact hn
  · intro z
    exact .inr ⟨_, List.mem_map.2 ⟨s, z, rfl⟩, rfl, rfl⟩
theorem IRaw.rd0 {w : World} {b : Nat} {l : List Tg} {ta : Option Addr} {tc : Nat} (h : IRaw w b l 0 St.empty (.slice ta l.length tc) (.slice none 0 0)) (h1 : l.length ≤ 1000000) : IRd w b St.empty l ta none tc 0 := by
  refine ⟨h.blt, ?_, ?_, h1, Nat.zero_le _, fun i hi => ?_, fun i hi => absurd hi (Nat.not_lt_zero i)⟩
  · rw [cell_of_row w b 0 _ _ _ h.root]; rfl
  · rw [cell_of_row w b 1 _ _ _ h.root]; rfl
  · obtain ⟨g, cap, e, hg, hc⟩ := row_cell h.rowT (by omega)
    simp only [Value.slice.injEq] at e
    have hat := flat_at tagC_len l i hi
    refine ⟨g, 0, e.1, hg, hc _ _ ?_, hc _ _ ?_, hc _ _ ?_⟩
    · rw [Nat.zero_add]; exact hat 0 (by omega)
    · rw [Nat.zero_add]; exact hat 1 (by omega)
    · rw [Nat.zero_add]; exact hat 2 (by omega)
theorem IRaw.new0 (w : World) : IRaw (w.alloc (.cells #[.slice none 0 0, .slice none 0 0] 71)) w.heap.size [] 0 St.empty (.slice none 0 0) (.slice none 0 0) :=
  ⟨heap_alloc_new w _, World.ownsRow_nil _ _ _ _, World.ownsRow_nil _ _ _ _, fun h => (by cases h), fun h => (by cases h), fun k h => (by cases h)⟩
set_option maxHeartbeats 4000000 in
set_option maxRecDepth 100000 in
theorem bList_any {g : Nat} {m : Img} (w : World) (hm : HasAt w g 0 m) (hok : m.check = 0) (d : Int) :
    Calls Tryz.prog 21 #[.pointer (some ⟨g, 0, none⟩), .int .i64 d] w fun e w' => ∃ v, e = .returned v ∧ w'.ownsRow w.heap.size 9 1 v (Img.snames m d).length (strs (Img.snames m d)) ∧ Below w.heap.size w w' := by
  have B0 := hide (show Below w.heap.size w (w.alloc (.cells #[.slice none 0 0, .slice none 0 0] 71)) from (Below.refl _ w).alloc (Nat.le_refl _) _)
  by_cases hd : 0 ≤ d ∧ d < 3
  case neg =>
    have e0 : Img.snames m d = [] := by unfold Img.snames; rw [if_neg hd]
    rw [e0]
    by_cases h0 : d < 0
    · have t0 : decide (d < 0) = true := by simpa using h0
      clear hd e0 hm hok
      go_enter Tryz.func21, Tryz.ntmps21
      go_wp2_with fail
      go_ret
      exact ⟨_, rfl, World.ownsRow_nil _ _ _ _, unhide B0⟩
    · have t0 : decide (d < 0) = false := by simpa using h0
      have t3 : decide (3 ≤ d) = true := by simp; omega
      clear hd e0 hm hok h0
      go_enter Tryz.func21, Tryz.ntmps21
      go_wp2_with fail
      go_ret
      exact ⟨_, rfl, World.ownsRow_nil _ _ _ _, unhide B0⟩
  obtain ⟨d, rfl⟩ := Int.eq_ofNat_of_zero_le hd.1
  have hd3 : d < 3 := by omega
  have t0 : decide ((d : Int) < 0) = false := by simp
  have t3 : decide (3 ≤ (d : Int)) = false := by simp; omega
  have dz : (d : Int) < 3 := by omega
  obtain ⟨i0, zt, hi0, hz0, hz1, hz2, hz3⟩ := tag_info
  have NMS := hide (btags_names hok hd3)
  have R0 := hide (IRaw.new0 w)
  have HB := hide fun W (bW : Below w.heap.size w W) => hm.below bW hm.lt
  have GL := hide hm.lt
  clear hd hok hm
  go_enter Tryz.func21, Tryz.ntmps21
  go_wp2_with fail
  generalize hX : w.alloc (.cells #[.slice none 0 0, .slice none 0 0] 71) = X0 at *
  clear hX
  obtain ⟨b, hb⟩ : ∃ b, b = w.heap.size := ⟨_, rfl⟩
  rw [← hb] at R0 ⊢
  have HBB := hide hb
  clear hb
  go_loopw [6] (fun i wr => ∃ (s : Nat) (vt : Value), s ≤ 4 ∧ i = .int .i64 s ∧ Hid (IRaw wr b (btags m d s) 0 St.empty vt (.slice none 0 0)) ∧ Hid (∀ k, vt.ownBlock = some k → w.heap.size ≤ k) ∧ Hid (Below w.heap.size w wr)) (fun i _ => 4 - (intOf i).toNat)
  case atStart => exact ⟨0, .slice none 0 0, by omega, rfl, R0, hide (fun k hk => by cases hk), B0⟩
  case round =>
    clear R0 B0
    obtain ⟨s, vt, hs, rfl, RW, OW, BW⟩ := hrel
    by_cases hlt : s < 4
    case neg =>
      have t4 : decide ((s : Int) < 4) = false := by simp; omega
      have e4 : s = 4 := by omega
      subst e4
      obtain ⟨ta, tc, hvt, _⟩ := own_form (unhide RW).rowT
      rw [hvt] at RW
      clear hvt OW
      have C1 := hide (rList_any (by have := btags_len m d 4; omega) (d : Int) wr ((unhide RW).rd0 (by have := btags_len m d 4; omega)))
      rw [unhide NMS] at C1
      go_wp2_with fail
      refine (unhide C1).mono ?_
      rintro e w1 ⟨v, rfl, ho, b1⟩
      have HO := hide (show w1.ownsRow w.heap.size 9 1 v (Img.snames m (d : Int)).length (strs (Img.snames m (d : Int))) from ⟨ho.1, ho.2.imp id (fun ⟨g0, cp, cu, a1, a2, a3⟩ => ⟨g0, cp, cu, a1, Nat.le_trans (unhide BW).size a2, a3⟩)⟩)
      have B1 := hide ((unhide BW).trans (b1.mono (unhide BW).size))
      clear ho b1 C1
      go_wp2_with fail
      go_ret
      exact ⟨_, rfl, unhide HO, unhide B1⟩
    have t4 : decide ((s : Int) < 4) = true := by simp; omega
    have sz : (s : Int) < 4 := by omega
    have c1 : wr.cell? ⟨g, 40 + d * 12 + s * 3, none⟩ = some (.string (m.name d s)) := by
      have := (unhide HB _ (unhide BW)).name d s hd3 hlt
      simpa using this
    cases hq : (m.name d s).toList.isEmpty
    case true =>
      have NO := hide (btags_no (m := m) (d := d) (s := s) (by unfold Img.named; rw [hq]; rfl))
      have hnl : (m.name d s).toList = [] := by simpa using hq
      go_wp2_with fail
      go_roundw
      case rel => exact ⟨s + 1, vt, by omega, by go_num, by rw [unhide NO]; exact RW, OW, BW⟩
      case measure => simp [intOf]; omega
    have YES := hide (btags_yes (m := m) (d := d) (s := s) (by unfold Img.named; rw [hq]; rfl))
    obtain ⟨ta, tc, hvt, _⟩ := own_form (unhide RW).rowT
    subst hvt
    have HW0 := hide ((unhide RW).below (Below.refl _ wr).drew)
    have BD := hide (unhide BW).drew
    have HSM := hide (show (m.name d s).size ≤ maxLen from (unhide HB _ (unhide BW)).small d s)
    have LN := hide (btags_len m d s)
    have HGT := hide (show (Value.slice ta (btags m d s).length tc).ownBlock ≠ some g from fun e => by have := unhide OW g e; have := unhide GL; omega)
    have NB := hide (show b ≠ g by have := unhide GL; have := unhide HBB; omega)
    generalize btags m d s = l at HW0 LN YES OW RW HGT ⊢
    go_wp2_with fail
    refine wp_region_J (S := fun W' => HasAt W' g 0 m ∧ W'.cell? ⟨b, 0, none⟩ = some (.slice ta l.length tc)) 21 (by kernel_rfl) (⟨unhide HB _ (unhide BD), by rw [cell_of_row _ _ 0 _ _ _ (unhide HW0).root]; rfl⟩) (fun hS => ?_)
    refine wpAnyJ_take (i := 0) (oi := ⟨some 30, .move (.tmp 5), 67, "base.go:660", #[], none⟩) (v := .pointer (some ⟨b, 0, none⟩)) rfl (by kernel_rfl) (by kernel_rfl) (by kernel_rfl) (by kernel_rfl) (fun _ _ _ h => h) (Or.inl ⟨by kernel_rfl, fun W h => (by first | kernel_rfl | go_simp)⟩) hS ?_
    try simp only [Act.put, z1, z2, z3]
    refine wpAnyJ_take (i := 1) (oi := ⟨some 31, .move (.tmp 5), 67, "base.go:660", #[], none⟩) (v := .pointer (some ⟨b, 0, none⟩)) rfl (by kernel_rfl) (by kernel_rfl) (by kernel_rfl) (by kernel_rfl) (fun _ _ _ h => h) (Or.inl ⟨by kernel_rfl, fun W h => (by first | kernel_rfl | go_simp)⟩) hS ?_
    try simp only [Act.put, z1, z2, z3]
    refine wpAnyJ_take (i := 2) (oi := ⟨some 32, .nilCheck (.tmp 31), 0, "base.go:660", #[⟨1, .data⟩], none⟩) (v := .pointer (some ⟨b, 0, none⟩)) rfl (by kernel_rfl) (by kernel_rfl) (by kernel_rfl) (by kernel_rfl) (fun _ _ _ h => h) (Or.inl ⟨by kernel_rfl, fun W h => (by first | kernel_rfl | go_simp)⟩) hS ?_
    try simp only [Act.put, z1, z2, z3]
    refine wpAnyJ_take (i := 3) (oi := ⟨some 33, .fieldAddr 71 (.tmp 32) 0, 0, "base.go:660", #[⟨2, .data⟩], none⟩) (v := .pointer (some ⟨b, 0, none⟩)) rfl (by kernel_rfl) (by kernel_rfl) (by kernel_rfl) (by kernel_rfl) (fun _ _ _ h => h) (Or.inl ⟨by kernel_rfl, fun W h => (by first | kernel_rfl | go_simp)⟩) hS ?_
    try simp only [Act.put, z1, z2, z3]
    refine wpAnyJ_take (i := 4) (oi := ⟨some 34, .load 68 (.tmp 33), 68, "base.go:660", #[⟨3, .data⟩], none⟩) (v := .slice ta l.length tc) rfl (by kernel_rfl) (by kernel_rfl) (by kernel_rfl) (by kernel_rfl) (fun _ _ _ h => h) (Or.inl ⟨by kernel_rfl, fun W h => run_ld_slT (.tmp 33) (by kernel_rfl) (by kernel_rfl) W h.2⟩) hS ?_
    try simp only [Act.put, z1, z2, z3]
    refine wpAnyJ_take (i := 5) (oi := ⟨some 35, .move (.tmp 1), 3, "base.go:660", #[], none⟩) (v := .int .i64 (d : Int)) rfl (by kernel_rfl) (by kernel_rfl) (by kernel_rfl) (by kernel_rfl) (fun _ _ _ h => h) (Or.inl ⟨by kernel_rfl, fun W h => (by first | kernel_rfl | go_simp)⟩) hS ?_
    try simp only [Act.put, z1, z2, z3]
    refine wpAnyJ_take (i := 6) (oi := ⟨some 36, .move (.tmp 0), 44, "base.go:660", #[], none⟩) (v := .pointer (some ⟨g, 0, none⟩)) rfl (by kernel_rfl) (by kernel_rfl) (by kernel_rfl) (by kernel_rfl) (fun _ _ _ h => h) (Or.inl ⟨by kernel_rfl, fun W h => (by first | kernel_rfl | go_simp)⟩) hS ?_
    try simp only [Act.put, z1, z2, z3]
    refine wpAnyJ_take (i := 7) (oi := ⟨some 37, .move (.tmp 1), 3, "base.go:660", #[], none⟩) (v := .int .i64 (d : Int)) rfl (by kernel_rfl) (by kernel_rfl) (by kernel_rfl) (by kernel_rfl) (fun _ _ _ h => h) (Or.inl ⟨by kernel_rfl, fun W h => (by first | kernel_rfl | go_simp)⟩) hS ?_
    try simp only [Act.put, z1, z2, z3]
    refine wpAnyJ_take (i := 8) (oi := ⟨some 38, .move (.tmp 6), 3, "base.go:660", #[], none⟩) (v := .int .i64 (s : Int)) rfl (by kernel_rfl) (by kernel_rfl) (by kernel_rfl) (by kernel_rfl) (fun _ _ _ h => h) (Or.inl ⟨by kernel_rfl, fun W h => (by first | kernel_rfl | go_simp)⟩) hS ?_
    try simp only [Act.put, z1, z2, z3]
    refine wpAnyJ_take (i := 9) (oi := ⟨some 39, .nilCheck (.tmp 36), 0, "base.go:660", #[⟨6, .data⟩], none⟩) (v := .pointer (some ⟨g, 0, none⟩)) rfl (by kernel_rfl) (by kernel_rfl) (by kernel_rfl) (by kernel_rfl) (fun _ _ _ h => h) (Or.inl ⟨by kernel_rfl, fun W h => (by first | kernel_rfl | go_simp)⟩) hS ?_
    try simp only [Act.put, z1, z2, z3]
    refine wpAnyJ_take (i := 10) (oi := ⟨some 40, .fieldAddr 48 (.tmp 39) 0, 0, "base.go:660", #[⟨9, .data⟩], none⟩) (v := .pointer (some ⟨g, 0, none⟩)) rfl (by kernel_rfl) (by kernel_rfl) (by kernel_rfl) (by kernel_rfl) (fun _ _ _ h => h) (Or.inl ⟨by kernel_rfl, fun W h => (by first | kernel_rfl | go_simp)⟩) hS ?_
    try simp only [Act.put, z1, z2, z3]
    refine wpAnyJ_take (i := 11) (oi := ⟨some 41, .fieldAddr 34 (.tmp 40) 1, 0, "base.go:660", #[⟨10, .data⟩], none⟩) (v := .pointer (some ⟨g, 40, none⟩)) rfl (by kernel_rfl) (by kernel_rfl) (by kernel_rfl) (by kernel_rfl) (fun _ _ _ h => h) (Or.inl ⟨by kernel_rfl, fun W h => (by first | kernel_rfl | go_simp)⟩) hS ?_
    try simp only [Act.put, z1, z2, z3]
    refine wpAnyJ_take (i := 12) (oi := ⟨some 42, .indexAddr 29 (.tmp 41) (.tmp 37), 0, "base.go:660", #[⟨11, .data⟩, ⟨7, .data⟩], none⟩) (v := .pointer (some ⟨g, 40 + d * 12, none⟩)) rfl (by kernel_rfl) (by kernel_rfl) (by kernel_rfl) (by kernel_rfl) (fun _ _ _ h => h) (Or.inl ⟨by kernel_rfl, fun W h => Op1.ix_dir (.tmp 41) (.tmp 37) (by kernel_rfl) (by kernel_rfl) (by kernel_rfl) (hd3) W⟩) hS ?_
    try simp only [Act.put, z1, z2, z3]
    refine wpAnyJ_take (i := 13) (oi := ⟨some 43, .indexAddr 28 (.tmp 42) (.tmp 38), 0, "base.go:660", #[⟨12, .data⟩, ⟨8, .data⟩], none⟩) (v := .pointer (some ⟨g, 40 + d * 12 + s * 3, none⟩)) rfl (by kernel_rfl) (by kernel_rfl) (by kernel_rfl) (by kernel_rfl) (fun _ _ _ h => h) (Or.inl ⟨by kernel_rfl, fun W h => Op1.ix_slot (.tmp 42) (.tmp 38) (by kernel_rfl) (by kernel_rfl) (by kernel_rfl) (hlt) W⟩) hS ?_
    try simp only [Act.put, z1, z2, z3]
    refine wpAnyJ_take (i := 14) (oi := ⟨some 44, .fieldAddr 27 (.tmp 43) 0, 0, "base.go:660", #[⟨13, .data⟩], none⟩) (v := .pointer (some ⟨g, 40 + d * 12 + s * 3, none⟩)) rfl (by kernel_rfl) (by kernel_rfl) (by kernel_rfl) (by kernel_rfl) (fun _ _ _ h => h) (Or.inl ⟨by kernel_rfl, fun W h => (by first | kernel_rfl | go_simp)⟩) hS ?_
    try simp only [Act.put, z1, z2, z3]
    refine wpAnyJ_take (i := 15) (oi := ⟨some 45, .load 9 (.tmp 44), 9, "base.go:660", #[⟨14, .data⟩], none⟩) (v := .string (m.name d s)) rfl (by kernel_rfl) (by kernel_rfl) (by kernel_rfl) (by kernel_rfl) (fun _ _ _ h => h) (Or.inl ⟨by kernel_rfl, fun W h => Op1.ld_str (.tmp 44) (by kernel_rfl) (by kernel_rfl) W (by have := h.1.name d s hd3 hlt; rw [Nat.zero_add] at this; exact this)⟩) hS ?_
    try simp only [Act.put, z1, z2, z3]
    refine wpAnyJ_take (i := 16) (oi := ⟨some 46, .build 90 #[(0, .tmp 35), (1, .tmp 45), (2, .const (.int .i64 0))], 90, "base.go:660", #[⟨5, .data⟩, ⟨15, .data⟩], none⟩) (v := .agg #[.int .i64 (d : Int), .string (m.name d s), .int .i64 ((0 : Nat) : Int)]) rfl (by kernel_rfl) (by kernel_rfl) (by kernel_rfl) (by kernel_rfl) (fun _ _ _ h => h) (Or.inl ⟨by kernel_rfl, fun W h => (by first | kernel_rfl | go_simp)⟩) hS ?_
    try simp only [Act.put, z1, z2, z3]
    generalize World.drew _ = W0 at hS HW0 BD ⊢
    refine wpAnyJ_one (i := 17) (o := ⟨some 47, .buildSlice 68 1 #[(0, .tmp 46)], 68, "base.go:660", #[⟨16, .data⟩], none⟩) (by kernel_rfl) rfl (by kernel_rfl) (fun K hK => ?_)
    go_simp
    have hS1 : HasAt (W0.alloc (.cells #[.int .i64 (d : Int), .string (m.name d s), .int .i64 ((0 : Nat) : Int)] 90)) g 0 m ∧ (W0.alloc (.cells #[.int .i64 (d : Int), .string (m.name d s), .int .i64 ((0 : Nat) : Int)] 90)).cell? ⟨b, 0, none⟩ = some (.slice ta l.length tc) := ⟨hS.1.blk (heap_alloc_old _ _ hS.1.lt), (World.cell?_of_block (heap_alloc_old _ _ (unhide HW0).blt)).trans hS.2⟩
    refine hK.out _ _ (fun _ => hS1) ?_
    clear hK K
    try simp only [Act.put, z1, z2, z3]
    refine wpAnyJ_one (i := 18) (o := ⟨some 48, .call { callee := .builtin .append, args := #[.tmp 34, .tmp 47], argTypes := #[68, 68] }, 68, "base.go:660", #[⟨4, .data⟩, ⟨17, .data⟩], none⟩) (by kernel_rfl) rfl (by kernel_rfl) (fun K hK => ?_)
    refine wp_append_part (.tmp 34) (.tmp 47) (by kernel_rfl) Tryz.underlying68 hi0 hz0 hz1 hz2 hz3 (by omega) (by kernel_rfl) (World.ownsRow.alloc (unhide HW0).rowT _) (by kernel_rfl) (.inr ⟨⟨W0.heap.size, 0, none⟩, 1, rfl, rfl, row_new W0 [.int .i64 (d : Int), .string (m.name d s), .int .i64 ((0 : Nat) : Int)] 90⟩) (one_tag (d : Int) (m.name d s) 0) (by have := unhide LN; unfold maxLen; omega) (by have := unhide LN; omega) (by simp) ?_
    intro v' W2 ho hg ha
    obtain ⟨a', c', rfl, _⟩ := own_form ho
    have hS2 : HasAt W2 g 0 m ∧ W2.cell? ⟨b, 0, none⟩ = some (.slice ta l.length tc) := ⟨hS1.1.blk (hg.block g hS1.1.lt (fun e => unhide HGT e.symm)), (World.cell?_of_block (hg.block b (Nat.lt_of_lt_of_le (unhide HW0).blt (by simp)) (fun e => (unhide HW0).offT e.symm))).trans hS1.2⟩
    have RAW := hide (make_raw (unhide HW0) ho hg ha)
    have FRZ := hide (raw_frozen (unhide HW0) hg)
    refine hK.out _ _ (fun _ => hS2) ?_
    clear hK K ho hg ha
    try simp only [Act.put, z1, z2, z3]
    refine wpAnyJ_one (i := 19) (o := ⟨some 49, .nilCheck (.tmp 30), 0, "base.go:660", #[⟨0, .data⟩, ⟨0, .phase⟩, ⟨1, .phase⟩, ⟨2, .phase⟩, ⟨3, .phase⟩, ⟨4, .phase⟩, ⟨5, .phase⟩, ⟨6, .phase⟩, ⟨7, .phase⟩, ⟨8, .phase⟩, ⟨9, .phase⟩, ⟨10, .phase⟩, ⟨11, .phase⟩, ⟨12, .phase⟩, ⟨13, .phase⟩, ⟨14, .phase⟩, ⟨15, .phase⟩, ⟨16, .phase⟩, ⟨17, .phase⟩, ⟨18, .phase⟩], none⟩) (by kernel_rfl) rfl (by kernel_rfl) (fun K hK => ?_)
    go_simp
    refine hK.out _ _ (fun _ => hS2) ?_
    clear hK K
    try simp only [Act.put, z1, z2, z3]
    refine wpAnyJ_one (i := 20) (o := ⟨some 50, .fieldAddr 71 (.tmp 49) 0, 0, "base.go:660", #[⟨19, .data⟩, ⟨0, .phase⟩, ⟨1, .phase⟩, ⟨2, .phase⟩, ⟨3, .phase⟩, ⟨4, .phase⟩, ⟨5, .phase⟩, ⟨6, .phase⟩, ⟨7, .phase⟩, ⟨8, .phase⟩, ⟨9, .phase⟩, ⟨10, .phase⟩, ⟨11, .phase⟩, ⟨12, .phase⟩, ⟨13, .phase⟩, ⟨14, .phase⟩, ⟨15, .phase⟩, ⟨16, .phase⟩, ⟨17, .phase⟩, ⟨18, .phase⟩], none⟩) (by kernel_rfl) rfl (by kernel_rfl) (fun K hK => ?_)
    go_simp
    refine hK.out _ _ (fun _ => hS2) ?_
    clear hK K
    try simp only [Act.put, z1, z2, z3]
    refine wpAnyJ_one (i := 21) (o := ⟨none, .store 68 (.tmp 50) (.tmp 48), 0, "base.go:660", #[⟨20, .data⟩, ⟨18, .data⟩, ⟨18, .chain⟩, ⟨0, .phase⟩, ⟨1, .phase⟩, ⟨2, .phase⟩, ⟨3, .phase⟩, ⟨4, .phase⟩, ⟨5, .phase⟩, ⟨6, .phase⟩, ⟨7, .phase⟩, ⟨8, .phase⟩, ⟨9, .phase⟩, ⟨10, .phase⟩, ⟨11, .phase⟩, ⟨12, .phase⟩, ⟨13, .phase⟩, ⟨14, .phase⟩, ⟨15, .phase⟩, ⟨16, .phase⟩, ⟨17, .phase⟩, ⟨18, .phase⟩], none⟩) (by kernel_rfl) rfl (by kernel_rfl) (fun K hK => ?_)
    refine wp_st_slT (v := a') (n := l.length + 1) (c := c') (.tmp 50) (.tmp 48) (by kernel_rfl) rfl (by kernel_rfl) (by kernel_rfl) hS2.2 (unhide FRZ) ?_
    refine hK.out _ _ (fun h => absurd rfl h) ?_
    clear hK K
    try simp only [Act.put, z1, z2, z3]
    refine wpAnyJ_done (by kernel_rfl) ?_ _
    generalize W2.setCell ⟨b, 0, none⟩ (.slice a' (l.length + 1) c') = WB at RAW ⊢
    have B2 := hide ((unhide BD).trans ((unhide RAW).2.1.below (unhide BD).size (fun k hk => by
      rcases hk with rfl | hk | hk
      · have := unhide HBB; omega
      · exact unhide OW k hk
      · cases hk)))
    have OW2 := hide (show ∀ k, (Value.slice a' (l.length + 1) c').ownBlock = some k → w.heap.size ≤ k from fun k hk => by
      rcases (unhide RAW).2.2 k (.inr (.inl hk)) with (rfl | z | z) | z
      · have := unhide HBB; omega
      · exact unhide OW k z
      · cases z
      · exact Nat.le_trans (unhide BD).size z)
    have RW2 := hide (unhide RAW).1
    clear hS hS1 hS2 FRZ
    go_wp2_with fail
    go_roundw
    case rel => exact ⟨s + 1, _, by omega, by go_num, by rw [unhide YES]; exact RW2, OW2, B2⟩
    case measure => simp [intOf]; omega
end Idl
end Go.Proofs.YtmbpckmpnnmnmabGreat
