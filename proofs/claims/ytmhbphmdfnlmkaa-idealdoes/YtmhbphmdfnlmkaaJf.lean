/-
  What is appended: a part of a row, or nothing; a row's two parts; the tools of (*eiderdownref.Ideal).List and Do.
-/
import Derived.Test.YtmhbphmdfnlmkaaVn
import Derived.Test.YtmhbphmdfnlmkaaJd
import Derived.Laws.OwnMore
import Derived.Deep.RegionHeld
namespace Go.Proofs.Ytmhbphmdfnlmkaa
open Go.RowKit
namespace Idl
/-- what is appended: m elements, of these cells -/
def Part (W : World) (size : Nat) (x : Value) (m : Nat) (news : List Value) : Prop :=
  (x = .slice none 0 0 ∧ m = 0 ∧ news = []) ∨ ∃ ad c, x = .slice (some ad) m c ∧ news.length = m * size ∧ ∀ j u, news[j]? = some u → W.cell? (ad.add j) = some u
section
variable {P : Program} {W : World} {base : Nat} {t e : TypeId} {i : TypeInfo} {z : Value} {size bytes : Nat}
theorem run_append_part (ty : TypeId) (ht : P.underlying t = some (.slice e)) (hi : P.info? e = some i) (hz : i.zero = some z)
    (hsize : i.size = size) (hby : i.bytes = bytes) (hzs : z.cells.size = size) (hsz : 0 < size) {v : Value} {n : Nat} {xs : List Value} (hown : W.ownsRow base e size v n xs)
    {x : Value} {m : Nat} {news : List Value} (hp : Part W size x m news) (h1 : ∀ u ∈ news, u.oneCell' = true) (h63 : n + m ≤ maxLen) (hbytes : (n + m) * bytes ≤ 140737488355328) (hbase : base ≤ W.heap.size) :
    ∃ v' W', (Builtin.append_ #[t, t] ty #[v, x]).run P W = .ok v' W' ∧ W'.ownsRow base e size v' (n + m) (xs ++ news) ∧ W.grownBy W' v.ownBlock ∧ (v'.ownBlock = v.ownBlock ∨ v'.ownBlock = some W.heap.size) := by
  rcases hp with ⟨rfl, rfl, rfl⟩ | ⟨ad, c, rfl, hl, hnews⟩
  · exact ⟨v, W, run_append_owned_none W base t ty e i size ht hi v n xs hown, by simpa using hown, ⟨rfl, rfl, rfl, Nat.le_refl _, fun _ _ _ => rfl⟩, .inl rfl⟩
  · obtain ⟨v', w', hr, h2, h3, _, h5⟩ := run_append_own_at (P := P) W base t ty e i z size bytes ht hi hz hsize hby hzs hsz v n xs hown ad m c news hl hnews h1 h63 hbytes hbase
    exact ⟨v', w', hr, h2, h3, h5⟩
theorem wp_append_part {o : Oper} {a : Act} {K : Act → World → Prop} {Q : Exit → Act → World → Prop} (s x : Operand)
    (ho : o.op = .call { callee := .builtin .append, args := #[s, x], argTypes := #[t, t] }) (ht : P.underlying t = some (.slice e)) (hi : P.info? e = some i) (hz : i.zero = some z)
    (hsize : i.size = size) (hby : i.bytes = bytes) (hzs : z.cells.size = size) (hsz : 0 < size) {v : Value} {n : Nat} {xs : List Value} (hs : a.eval s = v) (hown : W.ownsRow base e size v n xs)
    {xv : Value} {m : Nat} {news : List Value} (hx : a.eval x = xv) (hp : Part W size xv m news) (h1 : ∀ u ∈ news, u.oneCell' = true) (h63 : n + m ≤ maxLen) (hbytes : (n + m) * bytes ≤ 140737488355328) (hbase : base ≤ W.heap.size)
    (h : ∀ v' W', W'.ownsRow base e size v' (n + m) (xs ++ news) → W.grownBy W' v.ownBlock → (v'.ownBlock = v.ownBlock ∨ v'.ownBlock = some W.heap.size) → K (a.put o.dst v') W') : o.wp P a W K Q := by
  obtain ⟨v', w', hr, h2, h3, h4⟩ := run_append_part (P := P) (W := W) o.type ht hi hz hsize hby hzs hsz hown hp h1 h63 hbytes hbase
  unfold Oper.wp execOp
  simp only [ho, resolve, invoke, builtin, Sem.run_bind, Sem.run_pure, Result.andThen_ok, List.map_toArray, List.map_cons, List.map_nil, hs, hx, hr]
  exact h v' w' h2 h3 h4
/-- a row of one's own: a slice, and its two parts -/
theorem own_form {v : Value} {m : Nat} {xs : List Value} (h : W.ownsRow base e size v m xs) : ∃ a cap, v = .slice a m cap ∧ m ≤ cap := by
  rcases h.2 with ⟨rfl, rfl⟩ | ⟨g, cap, cur, rfl, _, _, hm, _⟩
  · exact ⟨_, _, rfl, Nat.le_refl _⟩
  · exact ⟨_, _, rfl, hm⟩
theorem part_lo {a : Option Addr} {m cap k : Nat} {xs : List Value} (h : W.ownsRow base e size (.slice a m cap) m xs) (hk : k ≤ m) : Part W size (sliced a 0 k cap size) k (xs.take (k * size)) := by
  have hl := h.1
  rcases h.2 with ⟨ev, rfl⟩ | ⟨g, cap', cur, ev, _, _, hm, _⟩
  · simp only [Value.slice.injEq] at ev
    obtain ⟨rfl, _, rfl⟩ := ev
    have : k = 0 := by omega
    subst this
    exact .inl ⟨rfl, rfl, by simp⟩
  · simp only [Value.slice.injEq] at ev
    obtain ⟨rfl, _, rfl⟩ := ev
    have hc := h.cells (g := g) rfl
    have hks : k * size ≤ m * size := Nat.mul_le_mul_right _ hk
    refine .inr ⟨⟨g, 0, none⟩, cap, ?_, by rw [List.length_take]; omega, fun j u hj => hc j u ?_⟩
    · unfold sliced
      split
      · rfl
      · rw [Option.map_some, Addr.add_lit]; simp
    · rw [List.getElem?_take] at hj
      split at hj
      · exact hj
      · cases hj
theorem part_hi {a : Option Addr} {m cap k : Nat} {xs : List Value} (h : W.ownsRow base e size (.slice a m cap) m xs) (hk : k ≤ m) : Part W size (sliced a k m cap size) (m - k) (xs.drop (k * size)) := by
  have hl := h.1
  rcases h.2 with ⟨ev, rfl⟩ | ⟨g, cap', cur, ev, _, _, hm, _⟩
  · simp only [Value.slice.injEq] at ev
    obtain ⟨rfl, _, rfl⟩ := ev
    have : k = 0 := by omega
    subst this
    have : xs = [] := List.eq_nil_of_length_eq_zero (by simpa using hl)
    subst this
    exact .inl ⟨rfl, rfl, by simp⟩
  · simp only [Value.slice.injEq] at ev
    obtain ⟨rfl, _, rfl⟩ := ev
    have hc := h.cells (g := g) rfl
    by_cases e1 : cap = k
    · have e2 : m = k := by omega
      subst e2
      refine .inr ⟨⟨g, 0, none⟩, cap - m, ?_, by rw [List.length_drop, hl, Nat.sub_self, Nat.sub_self]; simp, fun j u hj => ?_⟩
      · unfold sliced; rw [if_pos e1]
      · rw [List.getElem?_eq_none (by rw [List.length_drop]; omega)] at hj; cases hj
    · refine .inr ⟨⟨g, k * size, none⟩, cap - k, ?_, by rw [List.length_drop, hl, Nat.sub_mul], fun j u hj => ?_⟩
      · unfold sliced; rw [if_neg e1, Option.map_some, Addr.add_lit, Nat.zero_add]
      · rw [List.getElem?_drop] at hj
        have := hc _ _ hj
        rw [Addr.add_lit, Nat.zero_add] at this
        rw [Addr.add_lit]
        exact this
theorem Part.grown {m : Nat} {news : List Value} {B g : Nat} {W' : World} (hW : ∀ k, k < W.heap.size → k ≥ B → W'.heap[k]? = W.heap[k]?) (hB : g ≥ B) (hg : g < W.heap.size) (h : Part W size (.slice (some ⟨g, 0, none⟩) m m) m news) : Part W' size (.slice (some ⟨g, 0, none⟩) m m) m news := by
  rcases h with ⟨h, _⟩ | ⟨ad, c, e, hl, hn⟩
  · cases h
  · simp only [Value.slice.injEq, Option.some.injEq] at e
    obtain ⟨rfl, _, rfl⟩ := e
    refine .inr ⟨_, _, rfl, hl, fun j u hj => ?_⟩
    rw [← hn j u hj]
    rw [Addr.add_lit]
    exact World.cell?_of_block (hW g hg hB)
theorem run_exec_cut_lo {o : Oper} {ρ : Operand → Value} (x y : Operand) (ty : TypeId) (ho : o.op = .slice ty x none (some y) none) {a : Option Addr} {m cap k : Nat} (hx : ρ x = .slice a m cap) (hy : ρ y = .int .i64 (k : Int)) (hk : k ≤ cap)
    (hu : P.underlying ty = some (.slice (P.elem ty))) (hs : (P.info? (P.elem ty)).map (·.size) = some size) (w : World) : (execOp ρ o).run P w = .ok (.value (sliced a 0 k cap size)) w := by
  cases hq : P.info? (P.elem ty) with
  | none => rw [hq] at hs; cases hs
  | some q =>
    rw [hq] at hs
    have hs' : q.size = size := by simpa using hs
    have := run_slice_h (P := P) w ty a m cap hu .i64 (k : Int) (by omega) (by omega)
    unfold execOp
    simp [ho, hx, hy, run_sliceAt_slice, hu, this, sizeOf, typeInfo, hq, hs']
theorem run_exec_cut_hi {o : Oper} {ρ : Operand → Value} (x y : Operand) (ty : TypeId) (ho : o.op = .slice ty x (some y) none none) {a : Option Addr} {m cap k : Nat} (hx : ρ x = .slice a m cap) (hy : ρ y = .int .i64 (k : Int)) (hk : k ≤ m)
    (hu : P.underlying ty = some (.slice (P.elem ty))) (hs : (P.info? (P.elem ty)).map (·.size) = some size) (w : World) : (execOp ρ o).run P w = .ok (.value (sliced a k m cap size)) w := by
  cases hq : P.info? (P.elem ty) with
  | none => rw [hq] at hs; cases hs
  | some q =>
    rw [hq] at hs
    have hs' : q.size = size := by simpa using hs
    have := run_slice_l (P := P) w ty a m cap hu .i64 (k : Int) (by omega) (by omega)
    unfold execOp
    simp [ho, hx, hy, run_sliceAt_slice, hu, this, sizeOf, typeInfo, hq, hs']
end
/-! the names, one tag more -/
theorem namesOf_app : ∀ (l k : List Tg) (d : Int) (out : List ByteArray), namesOf (l ++ k) d out = namesOf k d (namesOf l d out)
  | [], _, _, _ => rfl
  | _ :: l, k, d, _ => namesOf_app l k d _
theorem namesOf_len : ∀ (l : List Tg) (d : Int) (out : List ByteArray), (namesOf l d out).length ≤ l.length + out.length
  | [], d, out => by simp [namesOf]
  | t :: l, d, out => by
    unfold namesOf
    have h := namesOf_len l d (if t.dir = d then insN out t.name else out)
    have h2 : (if t.dir = d then insN out t.name else out).length ≤ out.length + 1 := by
      split
      · unfold insN
        rw [List.length_append, List.length_cons, List.length_take, List.length_drop]
        omega
      · omega
    rw [List.length_cons]
    omega
theorem namesOf_more {l : List Tg} {k : Nat} (h : k < l.length) (d : Int) : namesOf (l.take (k + 1)) d [] = if l[k].dir = d then insN (namesOf (l.take k) d []) l[k].name else namesOf (l.take k) d [] := by
  rw [List.take_add_one, List.getElem?_eq_getElem h, namesOf_app]
  rfl
theorem plN_at {o : List ByteArray} {s : ByteArray} {k : Nat} (hk : k ≤ o.length) (h1 : ∀ j (hj : j < o.length), j < k → lt o[j] s = true) (h2 : ∀ hj : k < o.length, lt o[k] s = false) : plN o s = k := by
  unfold plN
  induction o generalizing k with
  | nil => simp at hk ⊢; omega
  | cons a o ih =>
    cases k with
    | zero =>
      have := h2 (by simp)
      rw [List.getElem_cons_zero] at this
      rw [List.takeWhile_cons, if_neg (by simp [this])]
      rfl
    | succ k =>
      have := h1 0 (by simp) (by omega)
      rw [List.getElem_cons_zero] at this
      rw [List.takeWhile_cons, if_pos this, List.length_cons, ih (k := k) (by simpa using hk) (fun j hj hjk => h1 (j + 1) (by simpa using hj) (by omega)) (fun hj => h2 (by simpa using hj))]
end Idl
end Go.Proofs.Ytmhbphmdfnlmkaa
