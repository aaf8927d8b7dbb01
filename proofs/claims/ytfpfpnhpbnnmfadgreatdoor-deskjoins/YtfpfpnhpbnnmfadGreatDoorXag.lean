/-
  The walk of safe.Entry.
-/
import Derived.Test.YtfpfpnhpbnnmfadGreatDoorXaf
import Derived.RegionTactic
import Derived.BigRegion
import Derived.ChangeAlike
import Derived.Laws.ResultCell
import Derived.ChangeKeysEq
namespace Go.Proofs.YtfpfpnhpbnnmfadGreatDoor
open Go.RowKit
theorem eqEnt (na : ByteArray) (ia sa : Int) (nb : ByteArray) (ib sb : Int) (w : World) : (binOp .eql 71 (.agg #[.string na, .int .i64 ia, .int .i64 sa]) (.agg #[.string nb, .int .i64 ib, .int .i64 sb])).run Tryz.prog w = .ok (.bool (na.toList == nb.toList && ia == ib && sa == sb)) w := by
  have u1 := Tryz.underlying3
  have u2 := Tryz.underlying9
  go_simp
  cases h1 : na.toList == nb.toList <;> cases h2 : ia == ib <;> cases h3 : sa == sb <;> simp_all
def entC (e : Ent) : Array Value := #[.string e.name, .int .i64 e.ino, .int .i64 e.est]
/-- the slots of both, and the answer's, in boxes -/
structure Ents (w W : World) (g1 g2 : Nat) (a b r : Ent) : Prop where
  below : Below w.heap.size w W
  b0 : W.heap[w.heap.size]? = some (.cells (entC r) 71)
  b1 : W.heap[g1]? = some (.cells (entC a) 71)
  b2 : W.heap[g2]? = some (.cells (entC b) 71)
  gt1 : w.heap.size < g1
  gt2 : w.heap.size < g2
theorem Ents.ab (w : World) (a b : Ent) : Ents w (((w.alloc (.cells (entC Ent.none) 71)).alloc (.cells (entC a) 71)).alloc (.cells (entC b) 71)).drew (w.alloc (.cells (entC Ent.none) 71)).heap.size ((w.alloc (.cells (entC Ent.none) 71)).heap.size + 1) a b Ent.none := by
  refine ⟨((((Below.refl _ _).alloc (Nat.le_refl _) _).alloc (by simp) _).alloc (by simp; omega) _).drew, ?_, ?_, ?_, by simp, by simp; omega⟩
  · show ((w.alloc _).alloc _ |>.alloc _).heap[w.heap.size]? = _
    rw [Below.heap_alloc _ _ _ (by simp; omega), Below.heap_alloc _ _ _ (by simp)]; exact heap_alloc_last _ _
  · show ((w.alloc _).alloc _ |>.alloc _).heap[_]? = _
    rw [Below.heap_alloc _ _ _ (by simp)]; exact heap_alloc_last _ _
  · show ((w.alloc _).alloc _ |>.alloc _).heap[_]? = _
    have := heap_alloc_last ((w.alloc (.cells (entC Ent.none) 71)).alloc (.cells (entC a) 71)) (.cells (entC b) 71)
    simpa using this
theorem Ents.ba (w : World) (a b : Ent) : Ents w (((w.alloc (.cells (entC Ent.none) 71)).alloc (.cells (entC b) 71)).alloc (.cells (entC a) 71)).drew ((w.alloc (.cells (entC Ent.none) 71)).heap.size + 1) (w.alloc (.cells (entC Ent.none) 71)).heap.size a b Ent.none :=
  have h := Ents.ab w b a
  ⟨h.below, h.b0, h.b2, h.b1, h.gt2, h.gt1⟩
theorem Ents.call {w W W1 : World} {g1 g2 : Nat} {a b r : Ent} (h : Ents w W g1 g2 a b r) (hb : Below W.heap.size W W1) : Ents w W1 g1 g2 a b r :=
  have l1 := (Array.getElem?_eq_some_iff.1 h.b1).1
  have l2 := (Array.getElem?_eq_some_iff.1 h.b2).1
  have l0 := (Array.getElem?_eq_some_iff.1 h.b0).1
  ⟨h.below.trans (hb.mono h.below.size), by rw [hb.block _ l0]; exact h.b0, by rw [hb.block _ l1]; exact h.b1, by rw [hb.block _ l2]; exact h.b2, h.gt1, h.gt2⟩
theorem Ents.draw {w W : World} {g1 g2 : Nat} {a b r : Ent} (h : Ents w W g1 g2 a b r) (q : Nat) : Ents w (W.drewN q) g1 g2 a b r := h.call (belowN (Below.refl _ _))
theorem Ents.cell1 {w W : World} {g1 g2 : Nat} {a b r : Ent} (h : Ents w W g1 g2 a b r) : W.cell? ⟨g1, 0, none⟩ = some (.string a.name) ∧ W.cell? ⟨g1, 1, none⟩ = some (.int .i64 a.ino) ∧ W.cell? ⟨g1, 2, none⟩ = some (.int .i64 a.est) :=
  ⟨by rw [cell_of_row _ _ _ _ _ _ h.b1]; rfl, by rw [cell_of_row _ _ _ _ _ _ h.b1]; rfl, by rw [cell_of_row _ _ _ _ _ _ h.b1]; rfl⟩
theorem Ents.cell2 {w W : World} {g1 g2 : Nat} {a b r : Ent} (h : Ents w W g1 g2 a b r) : W.cell? ⟨g2, 0, none⟩ = some (.string b.name) ∧ W.cell? ⟨g2, 1, none⟩ = some (.int .i64 b.ino) ∧ W.cell? ⟨g2, 2, none⟩ = some (.int .i64 b.est) :=
  ⟨by rw [cell_of_row _ _ _ _ _ _ h.b2]; rfl, by rw [cell_of_row _ _ _ _ _ _ h.b2]; rfl, by rw [cell_of_row _ _ _ _ _ _ h.b2]; rfl⟩
theorem Ents.cell0 {w W : World} {g1 g2 : Nat} {a b r : Ent} (h : Ents w W g1 g2 a b r) : W.cell? ⟨w.heap.size, 0, none⟩ = some (.string r.name) ∧ W.cell? ⟨w.heap.size, 1, none⟩ = some (.int .i64 r.ino) ∧ W.cell? ⟨w.heap.size, 2, none⟩ = some (.int .i64 r.est) ∧ ∀ i, W.frozen? ⟨w.heap.size, i, none⟩ = false :=
  ⟨by rw [cell_of_row _ _ _ _ _ _ h.b0]; rfl, by rw [cell_of_row _ _ _ _ _ _ h.b0]; rfl, by rw [cell_of_row _ _ _ _ _ _ h.b0]; rfl, fun i => frozen_of_row _ _ _ _ _ h.b0⟩
theorem Ents.ret {w W : World} {g1 g2 : Nat} {a b r : Ent} (h : Ents w W g1 g2 a b r) (e : Ent) :
    Below w.heap.size w (((W.setCell ⟨w.heap.size, 0, none⟩ (.string e.name)).setCell ⟨w.heap.size, 1, none⟩ (.int .i64 e.ino)).setCell ⟨w.heap.size, 2, none⟩ (.int .i64 e.est)) ∧
    (((W.setCell ⟨w.heap.size, 0, none⟩ (.string e.name)).setCell ⟨w.heap.size, 1, none⟩ (.int .i64 e.ino)).setCell ⟨w.heap.size, 2, none⟩ (.int .i64 e.est)).heap[w.heap.size]? = some (.cells (entC e) 71) :=
  ⟨((h.below.setCell (by simp) _).setCell (by simp) _).setCell (by simp) _, heap_setCell_same _ _ _ _ _ _ (heap_setCell_same _ _ _ _ _ _ (heap_setCell_same _ _ _ _ _ _ h.b0))⟩
end Go.Proofs.YtfpfpnhpbnnmfadGreatDoor
namespace Go.Proofs.YtfpfpnhpbnnmfadGreatDoor
open Go.RowKit
theorem set5_get {cs : Array Value} {o : Nat} {v0 v1 v2 v3 v4 : Value} (h : o + 5 ≤ cs.size) (j : Nat) :
    (((((cs.setIfInBounds o v0).setIfInBounds (o + 1) v1).setIfInBounds (o + 2) v2).setIfInBounds (o + 3) v3).setIfInBounds (o + 4) v4)[j]? =
      if j = o then some v0 else if j = o + 1 then some v1 else if j = o + 2 then some v2 else if j = o + 3 then some v3 else if j = o + 4 then some v4 else cs[j]? := by
  simp only [Array.getElem?_setIfInBounds, Array.size_setIfInBounds]
  repeat' split
  all_goals first | rfl | omega
theorem set3_get {cs : Array Value} {o : Nat} {v0 v1 v2 : Value} (h : o + 3 ≤ cs.size) (j : Nat) :
    (((cs.setIfInBounds o v0).setIfInBounds (o + 1) v1).setIfInBounds (o + 2) v2)[j]? =
      if j = o then some v0 else if j = o + 1 then some v1 else if j = o + 2 then some v2 else cs[j]? := by
  simp only [Array.getElem?_setIfInBounds, Array.size_setIfInBounds]
  repeat' split
  all_goals first | rfl | omega
theorem set2_get {cs : Array Value} {o : Nat} {v0 v1 : Value} (h : o + 2 ≤ cs.size) (j : Nat) :
    ((cs.setIfInBounds o v0).setIfInBounds (o + 1) v1)[j]? = if j = o then some v0 else if j = o + 1 then some v1 else cs[j]? := by
  simp only [Array.getElem?_setIfInBounds, Array.size_setIfInBounds]
  repeat' split
  all_goals first | rfl | omega
def put5v (cs : Array Value) (n : Nat) (i : Ino) : Array Value := ((((cs.setIfInBounds (n * 5) (.bool i.live)).setIfInBounds (n * 5 + 1) (.int .i64 i.stamp)).setIfInBounds (n * 5 + 2) (.int .i64 i.links)).setIfInBounds (n * 5 + 3) (.int .i64 i.p0)).setIfInBounds (n * 5 + 4) (.int .i64 i.p1)
def put3v (cs : Array Value) (d s : Nat) (e : Ent) : Array Value := ((cs.setIfInBounds (40 + d * 12 + s * 3) (.string e.name)).setIfInBounds (40 + d * 12 + s * 3 + 1) (.int .i64 e.ino)).setIfInBounds (40 + d * 12 + s * 3 + 2) (.int .i64 e.est)
def put2v (cs : Array Value) (x : Nat) (o : Int) (t : ByteArray) : Array Value := (cs.setIfInBounds (76 + x * 2) (.int .i64 o)).setIfInBounds (76 + x * 2 + 1) (.string t)
theorem IsImg.putIno {cs : Array Value} {m : Img} (h : IsImg cs m) {n : Nat} (hn : n < 8) (i : Ino) : IsImg (put5v cs n i) (m.putIno n i) := by
  have hs := h.size
  have g := fun j => set5_get (cs := cs) (o := n * 5) (v0 := .bool i.live) (v1 := .int .i64 i.stamp) (v2 := .int .i64 i.links) (v3 := .int .i64 i.p0) (v4 := .int .i64 i.p1) (by omega) j
  unfold put5v
  refine ⟨by simp [hs], fun k hk => ?_, fun k hk => ?_, fun k hk => ?_, fun k p hk hp => ?_, fun d s h1 h2 => ?_, fun d s h1 h2 => ?_, fun d s h1 h2 => ?_, fun x h1 => ?_, fun x h1 => ?_, h.small, h.short⟩
  · rw [g]
    by_cases e : k = n
    · subst e; rw [if_pos rfl]; simp [Img.putIno]
    · rw [if_neg (by omega), if_neg (by omega), if_neg (by omega), if_neg (by omega), if_neg (by omega), h.live k hk]; simp [Img.putIno, e]
  · rw [g]
    by_cases e : k = n
    · subst e; rw [if_neg (by omega), if_pos rfl]; simp [Img.putIno]
    · rw [if_neg (by omega), if_neg (by omega), if_neg (by omega), if_neg (by omega), if_neg (by omega), h.stamp k hk]; simp [Img.putIno, e]
  · rw [g]
    by_cases e : k = n
    · subst e; rw [if_neg (by omega), if_neg (by omega), if_pos rfl]; simp [Img.putIno]
    · rw [if_neg (by omega), if_neg (by omega), if_neg (by omega), if_neg (by omega), if_neg (by omega), h.links k hk]; simp [Img.putIno, e]
  · rw [g]
    by_cases e : k = n
    · subst e
      match p, hp with
      | 0, _ => rw [if_neg (by omega), if_neg (by omega), if_neg (by omega), if_pos rfl]; simp [Img.putIno]
      | 1, _ => rw [if_neg (by omega), if_neg (by omega), if_neg (by omega), if_neg (by omega), if_pos rfl]; simp [Img.putIno]
    · rw [if_neg (by omega), if_neg (by omega), if_neg (by omega), if_neg (by omega), if_neg (by omega), h.part k p hk hp]; simp [Img.putIno, e]
  · rw [g, if_neg (by omega), if_neg (by omega), if_neg (by omega), if_neg (by omega), if_neg (by omega)]; exact h.name d s h1 h2
  · rw [g, if_neg (by omega), if_neg (by omega), if_neg (by omega), if_neg (by omega), if_neg (by omega)]; exact h.ino d s h1 h2
  · rw [g, if_neg (by omega), if_neg (by omega), if_neg (by omega), if_neg (by omega), if_neg (by omega)]; exact h.est d s h1 h2
  · rw [g, if_neg (by omega), if_neg (by omega), if_neg (by omega), if_neg (by omega), if_neg (by omega)]; exact h.of x h1
  · rw [g, if_neg (by omega), if_neg (by omega), if_neg (by omega), if_neg (by omega), if_neg (by omega)]; exact h.text x h1
theorem IsImg.putEnt {cs : Array Value} {m : Img} (h : IsImg cs m) {d s : Nat} (hd : d < 3) (hs : s < 4) (e : Ent) (he : e.name.size ≤ maxLen) : IsImg (put3v cs d s e) (m.putEnt d s e) := by
  have hz := h.size
  have g := fun j => set3_get (cs := cs) (o := 40 + d * 12 + s * 3) (v0 := .string e.name) (v1 := .int .i64 e.ino) (v2 := .int .i64 e.est) (by omega) j
  unfold put3v
  refine ⟨by simp [hz], fun k hk => ?_, fun k hk => ?_, fun k hk => ?_, fun k p hk hp => ?_, fun d' s' h1 h2 => ?_, fun d' s' h1 h2 => ?_, fun d' s' h1 h2 => ?_, fun x h1 => ?_, fun x h1 => ?_, fun d' s' => ?_, h.short⟩
  · rw [g, if_neg (by omega), if_neg (by omega), if_neg (by omega)]; exact h.live k hk
  · rw [g, if_neg (by omega), if_neg (by omega), if_neg (by omega)]; exact h.stamp k hk
  · rw [g, if_neg (by omega), if_neg (by omega), if_neg (by omega)]; exact h.links k hk
  · rw [g, if_neg (by omega), if_neg (by omega), if_neg (by omega)]; exact h.part k p hk hp
  · rw [g]
    by_cases c : d' = d ∧ s' = s
    · obtain ⟨rfl, rfl⟩ := c; rw [if_pos rfl]; simp [Img.putEnt]
    · rw [if_neg (by omega), if_neg (by omega), if_neg (by omega), h.name d' s' h1 h2]; simp [Img.putEnt, c]
  · rw [g]
    by_cases c : d' = d ∧ s' = s
    · obtain ⟨rfl, rfl⟩ := c; rw [if_neg (by omega), if_pos rfl]; simp [Img.putEnt]
    · rw [if_neg (by omega), if_neg (by omega), if_neg (by omega), h.ino d' s' h1 h2]; simp [Img.putEnt, c]
  · rw [g]
    by_cases c : d' = d ∧ s' = s
    · obtain ⟨rfl, rfl⟩ := c; rw [if_neg (by omega), if_neg (by omega), if_pos rfl]; simp [Img.putEnt]
    · rw [if_neg (by omega), if_neg (by omega), if_neg (by omega), h.est d' s' h1 h2]; simp [Img.putEnt, c]
  · rw [g, if_neg (by omega), if_neg (by omega), if_neg (by omega)]; exact h.of x h1
  · rw [g, if_neg (by omega), if_neg (by omega), if_neg (by omega)]; exact h.text x h1
  · show (if d' = d ∧ s' = s then e.name else m.name d' s').size ≤ maxLen
    split
    · exact he
    · exact h.small d' s'
theorem IsImg.putData {cs : Array Value} {m : Img} (h : IsImg cs m) {x : Nat} (hx : x < 9) (o : Int) (t : ByteArray) (ht : t.size ≤ maxLen) : IsImg (put2v cs x o t) (m.putData x o t) := by
  have hz := h.size
  have g := fun j => set2_get (cs := cs) (o := 76 + x * 2) (v0 := .int .i64 o) (v1 := .string t) (by omega) j
  unfold put2v
  refine ⟨by simp [hz], fun k hk => ?_, fun k hk => ?_, fun k hk => ?_, fun k p hk hp => ?_, fun d' s' h1 h2 => ?_, fun d' s' h1 h2 => ?_, fun d' s' h1 h2 => ?_, fun y h1 => ?_, fun y h1 => ?_, h.small, fun y => ?_⟩
  · rw [g, if_neg (by omega), if_neg (by omega)]; exact h.live k hk
  · rw [g, if_neg (by omega), if_neg (by omega)]; exact h.stamp k hk
  · rw [g, if_neg (by omega), if_neg (by omega)]; exact h.links k hk
  · rw [g, if_neg (by omega), if_neg (by omega)]; exact h.part k p hk hp
  · rw [g, if_neg (by omega), if_neg (by omega)]; exact h.name d' s' h1 h2
  · rw [g, if_neg (by omega), if_neg (by omega)]; exact h.ino d' s' h1 h2
  · rw [g, if_neg (by omega), if_neg (by omega)]; exact h.est d' s' h1 h2
  · rw [g]
    by_cases c : y = x
    · subst c; rw [if_pos rfl]; simp [Img.putData]
    · rw [if_neg (by omega), if_neg (by omega), h.of y h1]; simp [Img.putData, c]
  · rw [g]
    by_cases c : y = x
    · subst c; rw [if_neg (by omega), if_pos rfl]; simp [Img.putData]
    · rw [if_neg (by omega), if_neg (by omega), h.text y h1]; simp [Img.putData, c]
  · show (if y = x then t else m.text y).size ≤ maxLen
    split
    · exact ht
    · exact h.short y
/-- every cell is one -/
theorem IsImg.cell_at {cs : Array Value} {m : Img} (h : IsImg cs m) (i : Nat) (hi : i < 94) : (∃ b, cs[i]? = some (.bool b)) ∨ (∃ n, cs[i]? = some (.int .i64 n)) ∨ ∃ s, cs[i]? = some (.string s) := by
  by_cases h1 : i < 40
  · have e : i = i / 5 * 5 + i % 5 := by omega
    rcases (show i % 5 = 0 ∨ i % 5 = 1 ∨ i % 5 = 2 ∨ i % 5 = 3 ∨ i % 5 = 4 by omega) with r | r | r | r | r <;> rw [e, r]
    · exact .inl ⟨_, h.live (i / 5) (by omega)⟩
    · exact .inr (.inl ⟨_, h.stamp (i / 5) (by omega)⟩)
    · exact .inr (.inl ⟨_, h.links (i / 5) (by omega)⟩)
    · exact .inr (.inl ⟨_, h.part (i / 5) 0 (by omega) (by omega)⟩)
    · exact .inr (.inl ⟨_, h.part (i / 5) 1 (by omega) (by omega)⟩)
  · by_cases h2 : i < 76
    · have e : i = 40 + (i - 40) / 12 * 12 + (i - 40) % 12 / 3 * 3 + (i - 40) % 3 := by omega
      rcases (show (i - 40) % 3 = 0 ∨ (i - 40) % 3 = 1 ∨ (i - 40) % 3 = 2 by omega) with r | r | r <;> rw [e, r]
      · exact .inr (.inr ⟨_, h.name ((i - 40) / 12) ((i - 40) % 12 / 3) (by omega) (by omega)⟩)
      · exact .inr (.inl ⟨_, h.ino ((i - 40) / 12) ((i - 40) % 12 / 3) (by omega) (by omega)⟩)
      · exact .inr (.inl ⟨_, h.est ((i - 40) / 12) ((i - 40) % 12 / 3) (by omega) (by omega)⟩)
    · have e : i = 76 + (i - 76) / 2 * 2 + (i - 76) % 2 := by omega
      rcases (show (i - 76) % 2 = 0 ∨ (i - 76) % 2 = 1 by omega) with r | r <;> rw [e, r]
      · exact .inr (.inl ⟨_, h.of ((i - 76) / 2) (by omega)⟩)
      · exact .inr (.inr ⟨_, h.text ((i - 76) / 2) (by omega)⟩)
theorem IsImg.all {cs : Array Value} {m : Img} (h : IsImg cs m) : cs.all (·.oneCell') = true := by
  rw [Array.all_eq_true]
  intro i hi
  have hg : cs[i]? = some cs[i] := by simp [hi]
  rcases h.cell_at i (by rw [h.size] at hi; exact hi) with ⟨b, e⟩ | ⟨b, e⟩ | ⟨b, e⟩
  all_goals
    rw [hg] at e
    rw [Option.some.inj e]; rfl
theorem IsImg.agree {cs ds : Array Value} {m k : Img} (h : IsImg cs m) (h' : IsImg ds k) (a : Img.Agree m k) : cs = ds := by
  refine Array.ext_getElem? fun i => ?_
  by_cases hi : i < 94
  · by_cases h1 : i < 40
    · have e : i = i / 5 * 5 + i % 5 := by omega
      have hn : i / 5 < 8 := by omega
      rcases (show i % 5 = 0 ∨ i % 5 = 1 ∨ i % 5 = 2 ∨ i % 5 = 3 ∨ i % 5 = 4 by omega) with r | r | r | r | r <;> rw [e, r]
      · exact (h.live _ hn).trans (by rw [a.live _ hn]; exact (h'.live _ hn).symm)
      · exact (h.stamp _ hn).trans (by rw [a.stamp _ hn]; exact (h'.stamp _ hn).symm)
      · exact (h.links _ hn).trans (by rw [a.links _ hn]; exact (h'.links _ hn).symm)
      · exact (h.part _ 0 hn (by omega)).trans (by rw [a.part _ _ hn (by omega)]; exact (h'.part _ 0 hn (by omega)).symm)
      · exact (h.part _ 1 hn (by omega)).trans (by rw [a.part _ _ hn (by omega)]; exact (h'.part _ 1 hn (by omega)).symm)
    · by_cases h2 : i < 76
      · have e : i = 40 + (i - 40) / 12 * 12 + (i - 40) % 12 / 3 * 3 + (i - 40) % 3 := by omega
        have hd : (i - 40) / 12 < 3 := by omega
        have hs : (i - 40) % 12 / 3 < 4 := by omega
        rcases (show (i - 40) % 3 = 0 ∨ (i - 40) % 3 = 1 ∨ (i - 40) % 3 = 2 by omega) with r | r | r <;> rw [e, r]
        · exact (h.name _ _ hd hs).trans (by rw [a.name _ _ hd hs]; exact (h'.name _ _ hd hs).symm)
        · exact (h.ino _ _ hd hs).trans (by rw [a.ino _ _ hd hs]; exact (h'.ino _ _ hd hs).symm)
        · exact (h.est _ _ hd hs).trans (by rw [a.est _ _ hd hs]; exact (h'.est _ _ hd hs).symm)
      · have e : i = 76 + (i - 76) / 2 * 2 + (i - 76) % 2 := by omega
        have hx : (i - 76) / 2 < 9 := by omega
        rcases (show (i - 76) % 2 = 0 ∨ (i - 76) % 2 = 1 by omega) with r | r <;> rw [e, r]
        · exact (h.of _ hx).trans (by rw [a.of _ hx]; exact (h'.of _ hx).symm)
        · exact (h.text _ hx).trans (by rw [a.text _ hx]; exact (h'.text _ hx).symm)
  · rw [Array.getElem?_eq_none (by rw [h.size]; omega), Array.getElem?_eq_none (by rw [h'.size]; omega)]
end Go.Proofs.YtfpfpnhpbnnmfadGreatDoor
namespace Go.Proofs.YtfpfpnhpbnnmfadGreatDoor
open Go.RowKit
/-- an image that fills a block -/
def Row (w : World) (b : Nat) (m : Img) : Prop := ∃ cs, w.heap[b]? = some (.cells cs 78) ∧ IsImg cs m
theorem Row.has {w : World} {b : Nat} {m : Img} (h : Row w b m) : HasImg w b m := by
  obtain ⟨cs, h1, h2⟩ := h
  exact has_of_row h1 h2
/-- what Write answers -/
def Written (x : Img) (ok : Bool) (e : Ending) : Prop := ∃ cs, e = .returned (.tuple #[.agg cs, .bool ok]) ∧ IsImg cs x
theorem results_row_tmp {P : Program} {fn : Func} {p u : Tmp} {ty : TypeId} (h : fn.results = #[.cell p ty, .tmp u]) (tmps : Array Value) (w : World) (g : Nat) (t : TypeId) (cs : Array Value) (fr : Nat × Nat) (d : TypeDesc) (v : Value)
    (hp : tmps.getD p undef = .pointer (some ⟨g, 0, none⟩)) (hv : tmps.getD u undef = v) (hg : w.heap[g]? = some (.cells cs t fr))
    (hu : P.underlying ty = some d) (hd : (match d with | .struct _ | .array _ _ => true | _ => false) = true) (hi : (P.info? ty).map (·.size) = some cs.size) :
    (results fn tmps).run P w = .ok (.tuple #[.agg cs, v]) w := by
  rw [results_cell_tmp h, hp, hv]
  simp [asAddr, run_loadVar_row w g t ty cs fr d hg hu hd hi]
theorem Img.wInos_step {now disk : Img} {q kk : Nat} (h : q ≤ kk) : Img.wInos now disk q (kk + 1 - q) = (Img.wInos now disk q (kk - q)).putIno kk (Img.inodeAs now disk kk) := by
  rw [show kk + 1 - q = (kk - q) + 1 by omega, Img.wInos, show q + (kk - q) = kk by omega]
theorem Img.wDir_step {now disk : Img} {d s : Nat} : Img.wDir now disk d (s + 1) = (Img.wDir now disk d s).putEnt d s (Img.entryAs now (Img.wDir now disk d s) d s) := rfl
theorem entryAs_small {now m : Img} (h1 : ∀ d s, (now.name d s).size ≤ maxLen) (h2 : ∀ d s, (m.name d s).size ≤ maxLen) (d s : Nat) : (Img.entryAs now m d s).name.size ≤ maxLen := by
  rcases Img.entryAs_cases now m d s with e | ⟨_, _, e⟩ | ⟨_, _, e⟩ <;> rw [e]
  · exact h2 d s
  · exact h1 d s
  · exact Nat.zero_le _
end Go.Proofs.YtfpfpnhpbnnmfadGreatDoor
namespace Go.Proofs.YtfpfpnhpbnnmfadGreatDoor
open Go.RowKit
/-- boxes of images, all of them new -/
structure Boxes (w wr : World) (l : List (Nat × Array Value)) : Prop where
  below : Below w.heap.size w wr
  lo : ∀ p ∈ l, w.heap.size ≤ p.1
  row : ∀ p ∈ l, wr.heap[p.1]? = some (.cells p.2 78)
section
variable {w wr w1 : World} {l : List (Nat × Array Value)}
theorem Boxes.hi (h : Boxes w wr l) {p : Nat × Array Value} (hp : p ∈ l) : p.1 < wr.heap.size := (Array.getElem?_eq_some_iff.1 (h.row p hp)).1
theorem Boxes.call (h : Boxes w wr l) (hb : Below wr.heap.size wr w1) : Boxes w w1 l :=
  ⟨h.below.trans (hb.mono h.below.size), h.lo, fun p hp => by rw [hb.block _ (h.hi hp)]; exact h.row p hp⟩
theorem Boxes.new (h : Boxes w wr l) (c : Array Value) : Boxes w ((wr.alloc (.cells zeroCells 78)).setRow wr.heap.size c) ((wr.heap.size, c) :: l) := by
  refine ⟨below_setRow (h.below.alloc h.below.size _) h.below.size _, fun p hp => ?_, fun p hp => ?_⟩
  · rcases List.mem_cons.1 hp with e | e
    · subst e; exact h.below.size
    · exact h.lo p e
  · rcases List.mem_cons.1 hp with e | e
    · subst e; exact setRow_heap _ _ _ _ _ _ (heap_alloc_last _ _)
    · have := h.hi e
      rw [setRow_other _ _ _ _ (by omega), Below.heap_alloc _ _ _ (by omega)]; exact h.row p e
theorem Boxes.start (w : World) : Boxes w w [] := ⟨Below.refl _ _, fun _ h => by simp at h, fun _ h => by simp at h⟩
theorem Boxes.is (h : Boxes w wr l) {g : Nat} {c : Array Value} (hp : (g, c) ∈ l) {m : Img} (hi : IsImg c m) : Row wr g m := ⟨c, h.row (g, c) hp, hi⟩
theorem Boxes.has (h : Boxes w wr l) {g : Nat} {c : Array Value} (hp : (g, c) ∈ l) {m : Img} (hi : IsImg c m) : HasImg wr g m := (h.is hp hi).has
end
theorem zero_size {cs : Array Value} {m : Img} (h : IsImg cs m) : zeroCells.size = cs.size := by rw [h.size]; exact size_newTo 0
def blankI : Img := imgOf blankCells
theorem blank_kinds : Kinds blankCells := .of size_blank (by kernel_rfl)
theorem blank_is : IsImg blankCells blankI := blank_kinds.isImg
end Go.Proofs.YtfpfpnhpbnnmfadGreatDoor
namespace Go.Proofs.YtfpfpnhpbnnmfadGreatDoor
open Go.RowKit
section
variable {P : Program}
end
theorem part_inode (xs : Array Value) (off : Nat) (w : World) : (part 68 xs off).run Tryz.prog w = .ok (.agg (xs.extract off (off + 5))) w := by
  have u := run_underlying (w := w) Tryz.underlying68
  simp [part, isAgg, u]
theorem part_entry (xs : Array Value) (off : Nat) (w : World) : (part 71 xs off).run Tryz.prog w = .ok (.agg (xs.extract off (off + 3))) w := by
  have u := run_underlying (w := w) Tryz.underlying71
  simp [part, isAgg, u]
theorem part_data (xs : Array Value) (off : Nat) (w : World) : (part 75 xs off).run Tryz.prog w = .ok (.agg (xs.extract off (off + 2))) w := by
  have u := run_underlying (w := w) Tryz.underlying75
  simp [part, isAgg, u]
theorem part_dir (xs : Array Value) (off : Nat) (w : World) : (part 72 xs off).run Tryz.prog w = .ok (.agg (xs.extract off (off + 12))) w := by
  have u := run_underlying (w := w) Tryz.underlying72
  simp [part, isAgg, u]
theorem part_inodes (xs : Array Value) (off : Nat) (w : World) : (part 69 xs off).run Tryz.prog w = .ok (.agg (xs.extract off (off + 40))) w := by
  have u := run_underlying (w := w) Tryz.underlying69
  simp [part, isAgg, u]
theorem part_dirs (xs : Array Value) (off : Nat) (w : World) : (part 73 xs off).run Tryz.prog w = .ok (.agg (xs.extract off (off + 36))) w := by
  have u := run_underlying (w := w) Tryz.underlying73
  simp [part, isAgg, u]
theorem part_datas (xs : Array Value) (off : Nat) (w : World) : (part 76 xs off).run Tryz.prog w = .ok (.agg (xs.extract off (off + 18))) w := by
  have u := run_underlying (w := w) Tryz.underlying76
  simp [part, isAgg, u]
theorem ext_at {xs : Array Value} {a b j : Nat} {v : Value} (hj : a + j < b) (h : xs[a + j]? = some v) : (xs.extract a b)[j]? = some v := by
  have hs : a + j < xs.size := (Array.getElem?_eq_some_iff.1 h).1
  rw [Array.getElem?_extract, if_pos (by omega)]; exact h
theorem cut5 {xs : Array Value} {o : Nat} {v0 v1 v2 v3 v4 : Value} (h0 : xs[o]? = some v0) (h1 : xs[o + 1]? = some v1) (h2 : xs[o + 2]? = some v2) (h3 : xs[o + 3]? = some v3) (h4 : xs[o + 4]? = some v4) : xs.extract o (o + 5) = #[v0, v1, v2, v3, v4] := by
  have hs : o + 4 < xs.size := (Array.getElem?_eq_some_iff.1 h4).1
  refine Array.ext_getElem? fun j => ?_
  rw [Array.getElem?_extract]
  by_cases hj : j < 5
  · rw [if_pos (by omega)]
    match j, hj with
    | 0, _ => exact h0
    | 1, _ => exact h1
    | 2, _ => exact h2
    | 3, _ => exact h3
    | 4, _ => exact h4
  · rw [if_neg (by omega), Array.getElem?_eq_none (by simp; omega)]
theorem cut3 {xs : Array Value} {o : Nat} {v0 v1 v2 : Value} (h0 : xs[o]? = some v0) (h1 : xs[o + 1]? = some v1) (h2 : xs[o + 2]? = some v2) : xs.extract o (o + 3) = #[v0, v1, v2] := by
  have hs : o + 2 < xs.size := (Array.getElem?_eq_some_iff.1 h2).1
  refine Array.ext_getElem? fun j => ?_
  rw [Array.getElem?_extract]
  by_cases hj : j < 3
  · rw [if_pos (by omega)]
    match j, hj with
    | 0, _ => exact h0
    | 1, _ => exact h1
    | 2, _ => exact h2
  · rw [if_neg (by omega), Array.getElem?_eq_none (by simp; omega)]
theorem cut2 {xs : Array Value} {o : Nat} {v0 v1 : Value} (h0 : xs[o]? = some v0) (h1 : xs[o + 1]? = some v1) : xs.extract o (o + 2) = #[v0, v1] := by
  have hs : o + 1 < xs.size := (Array.getElem?_eq_some_iff.1 h1).1
  refine Array.ext_getElem? fun j => ?_
  rw [Array.getElem?_extract]
  by_cases hj : j < 2
  · rw [if_pos (by omega)]
    match j, hj with
    | 0, _ => exact h0
    | 1, _ => exact h1
  · rw [if_neg (by omega), Array.getElem?_eq_none (by simp; omega)]
theorem cells_ino : Tryz.prog.cellsOf 68 = 5 := by kernel_rfl
theorem cells_ent : Tryz.prog.cellsOf 71 = 3 := by kernel_rfl
theorem cells_dat : Tryz.prog.cellsOf 75 = 2 := by kernel_rfl
theorem cells_dir : Tryz.prog.cellsOf 72 = 12 := by kernel_rfl
theorem info_ino : ∃ i, Tryz.prog.info? 68 = some i := info_of_underlying Tryz.underlying68
theorem info_ent : ∃ i, Tryz.prog.info? 71 = some i := info_of_underlying Tryz.underlying71
theorem info_dat : ∃ i, Tryz.prog.info? 75 = some i := info_of_underlying Tryz.underlying75
theorem info_dir : ∃ i, Tryz.prog.info? 72 = some i := info_of_underlying Tryz.underlying72
variable {cs : Array Value} {m : Img}
def fieldT (f : Field) : Bool × TypeId × Nat := (f.name != "_", f.type, f.offset)
theorem img_fields : (Tryz.prog.fieldsOf 78).toList.map fieldT = [(true, 69, 0), (true, 73, 40), (true, 76, 76)] := by kernel_rfl
theorem img_stood : Tryz.prog.stoodInHeld 78 = false := by kernel_rfl
end Go.Proofs.YtfpfpnhpbnnmfadGreatDoor
