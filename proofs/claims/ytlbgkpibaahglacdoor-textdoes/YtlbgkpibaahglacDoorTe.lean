/-
  The walk of safe.Write.
-/
import Derived.Test.YtlbgkpibaahglacDoorTd
namespace Go.Proofs.YtlbgkpibaahglacDoor
open Go.RowKit
theorem set5_get {cs : Array Value} {o : Nat} {v0 v1 v2 v3 v4 : Value} (h : o + 5 ≤ cs.size) (j : Nat) :
    (((((cs.setIfInBounds o v0).setIfInBounds (o + 1) v1).setIfInBounds (o + 2) v2).setIfInBounds (o + 3) v3).setIfInBounds (o + 4) v4)[j]? =
      if j = o then some v0 else if j = o + 1 then some v1 else if j = o + 2 then some v2 else if j = o + 3 then some v3 else if j = o + 4 then some v4 else cs[j]? := by
  simp only [Array.getElem?_setIfInBounds, Array.size_setIfInBounds]
  repeat' split
  all_goals first | rfl | omega
theorem set3_get {cs : Array Value} {o : Nat} {v0 v1 v2 : Value} (h : o + 3 ≤ cs.size) (j : Nat) :
    (((cs.setIfInBounds o v0).setIfInBounds (o + 1) v1).setIfInBounds (o + 2) v2)[j]? =
      if j = o then some v0 else if j = o + 1 then some v1 else if j = o + 2 then some v2 else cs[j]? := by
  simp only [Array.getElem?_setIfInBounds, Array.size_setIfInBounds]
  repeat' split
  all_goals first | rfl | omega
theorem set2_get {cs : Array Value} {o : Nat} {v0 v1 : Value} (h : o + 2 ≤ cs.size) (j : Nat) :
    ((cs.setIfInBounds o v0).setIfInBounds (o + 1) v1)[j]? = if j = o then some v0 else if j = o + 1 then some v1 else cs[j]? := by
  simp only [Array.getElem?_setIfInBounds, Array.size_setIfInBounds]
  repeat' split
  all_goals first | rfl | omega
def put5v (cs : Array Value) (n : Nat) (i : Ino) : Array Value := ((((cs.setIfInBounds (n * 5) (.bool i.live)).setIfInBounds (n * 5 + 1) (.int .i64 i.stamp)).setIfInBounds (n * 5 + 2) (.int .i64 i.links)).setIfInBounds (n * 5 + 3) (.int .i64 i.p0)).setIfInBounds (n * 5 + 4) (.int .i64 i.p1)
def put3v (cs : Array Value) (d s : Nat) (e : Ent) : Array Value := ((cs.setIfInBounds (40 + d * 12 + s * 3) (.string e.name)).setIfInBounds (40 + d * 12 + s * 3 + 1) (.int .i64 e.ino)).setIfInBounds (40 + d * 12 + s * 3 + 2) (.int .i64 e.est)
def put2v (cs : Array Value) (x : Nat) (o : Int) (t : ByteArray) : Array Value := (cs.setIfInBounds (76 + x * 2) (.int .i64 o)).setIfInBounds (76 + x * 2 + 1) (.string t)
theorem IsImg.putIno {cs : Array Value} {m : Img} (h : IsImg cs m) {n : Nat} (hn : n < 8) (i : Ino) : IsImg (put5v cs n i) (m.putIno n i) := by
  have hs := h.size
  have g := fun j => set5_get (cs := cs) (o := n * 5) (v0 := .bool i.live) (v1 := .int .i64 i.stamp) (v2 := .int .i64 i.links) (v3 := .int .i64 i.p0) (v4 := .int .i64 i.p1) (by omega) j
  unfold put5v
  refine ⟨by simp [hs], fun k hk => ?_, fun k hk => ?_, fun k hk => ?_, fun k p hk hp => ?_, fun d s h1 h2 => ?_, fun d s h1 h2 => ?_, fun d s h1 h2 => ?_, fun x h1 => ?_, fun x h1 => ?_, h.small, h.short⟩
  · rw [g]
    by_cases e : k = n
    · subst e; rw [if_pos rfl]; simp [Img.putIno]
    · rw [if_neg (by omega), if_neg (by omega), if_neg (by omega), if_neg (by omega), if_neg (by omega), h.live k hk]; simp [Img.putIno, e]
  · rw [g]
    by_cases e : k = n
    · subst e; rw [if_neg (by omega), if_pos rfl]; simp [Img.putIno]
    · rw [if_neg (by omega), if_neg (by omega), if_neg (by omega), if_neg (by omega), if_neg (by omega), h.stamp k hk]; simp [Img.putIno, e]
  · rw [g]
    by_cases e : k = n
    · subst e; rw [if_neg (by omega), if_neg (by omega), if_pos rfl]; simp [Img.putIno]
    · rw [if_neg (by omega), if_neg (by omega), if_neg (by omega), if_neg (by omega), if_neg (by omega), h.links k hk]; simp [Img.putIno, e]
  · rw [g]
    by_cases e : k = n
    · subst e
      match p, hp with
      | 0, _ => rw [if_neg (by omega), if_neg (by omega), if_neg (by omega), if_pos rfl]; simp [Img.putIno]
      | 1, _ => rw [if_neg (by omega), if_neg (by omega), if_neg (by omega), if_neg (by omega), if_pos rfl]; simp [Img.putIno]
    · rw [if_neg (by omega), if_neg (by omega), if_neg (by omega), if_neg (by omega), if_neg (by omega), h.part k p hk hp]; simp [Img.putIno, e]
  · rw [g, if_neg (by omega), if_neg (by omega), if_neg (by omega), if_neg (by omega), if_neg (by omega)]; exact h.name d s h1 h2
  · rw [g, if_neg (by omega), if_neg (by omega), if_neg (by omega), if_neg (by omega), if_neg (by omega)]; exact h.ino d s h1 h2
  · rw [g, if_neg (by omega), if_neg (by omega), if_neg (by omega), if_neg (by omega), if_neg (by omega)]; exact h.est d s h1 h2
  · rw [g, if_neg (by omega), if_neg (by omega), if_neg (by omega), if_neg (by omega), if_neg (by omega)]; exact h.of x h1
  · rw [g, if_neg (by omega), if_neg (by omega), if_neg (by omega), if_neg (by omega), if_neg (by omega)]; exact h.text x h1
theorem IsImg.putEnt {cs : Array Value} {m : Img} (h : IsImg cs m) {d s : Nat} (hd : d < 3) (hs : s < 4) (e : Ent) (he : e.name.size ≤ maxLen) : IsImg (put3v cs d s e) (m.putEnt d s e) := by
  have hz := h.size
  have g := fun j => set3_get (cs := cs) (o := 40 + d * 12 + s * 3) (v0 := .string e.name) (v1 := .int .i64 e.ino) (v2 := .int .i64 e.est) (by omega) j
  unfold put3v
  refine ⟨by simp [hz], fun k hk => ?_, fun k hk => ?_, fun k hk => ?_, fun k p hk hp => ?_, fun d' s' h1 h2 => ?_, fun d' s' h1 h2 => ?_, fun d' s' h1 h2 => ?_, fun x h1 => ?_, fun x h1 => ?_, fun d' s' => ?_, h.short⟩
  · rw [g, if_neg (by omega), if_neg (by omega), if_neg (by omega)]; exact h.live k hk
  · rw [g, if_neg (by omega), if_neg (by omega), if_neg (by omega)]; exact h.stamp k hk
  · rw [g, if_neg (by omega), if_neg (by omega), if_neg (by omega)]; exact h.links k hk
  · rw [g, if_neg (by omega), if_neg (by omega), if_neg (by omega)]; exact h.part k p hk hp
  · rw [g]
    by_cases c : d' = d ∧ s' = s
    · obtain ⟨rfl, rfl⟩ := c; rw [if_pos rfl]; simp [Img.putEnt]
    · rw [if_neg (by omega), if_neg (by omega), if_neg (by omega), h.name d' s' h1 h2]; simp [Img.putEnt, c]
  · rw [g]
    by_cases c : d' = d ∧ s' = s
    · obtain ⟨rfl, rfl⟩ := c; rw [if_neg (by omega), if_pos rfl]; simp [Img.putEnt]
    · rw [if_neg (by omega), if_neg (by omega), if_neg (by omega), h.ino d' s' h1 h2]; simp [Img.putEnt, c]
  · rw [g]
    by_cases c : d' = d ∧ s' = s
    · obtain ⟨rfl, rfl⟩ := c; rw [if_neg (by omega), if_neg (by omega), if_pos rfl]; simp [Img.putEnt]
    · rw [if_neg (by omega), if_neg (by omega), if_neg (by omega), h.est d' s' h1 h2]; simp [Img.putEnt, c]
  · rw [g, if_neg (by omega), if_neg (by omega), if_neg (by omega)]; exact h.of x h1
  · rw [g, if_neg (by omega), if_neg (by omega), if_neg (by omega)]; exact h.text x h1
  · show (if d' = d ∧ s' = s then e.name else m.name d' s').size ≤ maxLen
    split
    · exact he
    · exact h.small d' s'
theorem IsImg.putData {cs : Array Value} {m : Img} (h : IsImg cs m) {x : Nat} (hx : x < 9) (o : Int) (t : ByteArray) (ht : t.size ≤ maxLen) : IsImg (put2v cs x o t) (m.putData x o t) := by
  have hz := h.size
  have g := fun j => set2_get (cs := cs) (o := 76 + x * 2) (v0 := .int .i64 o) (v1 := .string t) (by omega) j
  unfold put2v
  refine ⟨by simp [hz], fun k hk => ?_, fun k hk => ?_, fun k hk => ?_, fun k p hk hp => ?_, fun d' s' h1 h2 => ?_, fun d' s' h1 h2 => ?_, fun d' s' h1 h2 => ?_, fun y h1 => ?_, fun y h1 => ?_, h.small, fun y => ?_⟩
  · rw [g, if_neg (by omega), if_neg (by omega)]; exact h.live k hk
  · rw [g, if_neg (by omega), if_neg (by omega)]; exact h.stamp k hk
  · rw [g, if_neg (by omega), if_neg (by omega)]; exact h.links k hk
  · rw [g, if_neg (by omega), if_neg (by omega)]; exact h.part k p hk hp
  · rw [g, if_neg (by omega), if_neg (by omega)]; exact h.name d' s' h1 h2
  · rw [g, if_neg (by omega), if_neg (by omega)]; exact h.ino d' s' h1 h2
  · rw [g, if_neg (by omega), if_neg (by omega)]; exact h.est d' s' h1 h2
  · rw [g]
    by_cases c : y = x
    · subst c; rw [if_pos rfl]; simp [Img.putData]
    · rw [if_neg (by omega), if_neg (by omega), h.of y h1]; simp [Img.putData, c]
  · rw [g]
    by_cases c : y = x
    · subst c; rw [if_neg (by omega), if_pos rfl]; simp [Img.putData]
    · rw [if_neg (by omega), if_neg (by omega), h.text y h1]; simp [Img.putData, c]
  · show (if y = x then t else m.text y).size ≤ maxLen
    split
    · exact ht
    · exact h.short y
/-- every cell is one -/
theorem IsImg.cell_at {cs : Array Value} {m : Img} (h : IsImg cs m) (i : Nat) (hi : i < 94) : (∃ b, cs[i]? = some (.bool b)) ∨ (∃ n, cs[i]? = some (.int .i64 n)) ∨ ∃ s, cs[i]? = some (.string s) := by
  by_cases h1 : i < 40
  · have e : i = i / 5 * 5 + i % 5 := by omega
    rcases (show i % 5 = 0 ∨ i % 5 = 1 ∨ i % 5 = 2 ∨ i % 5 = 3 ∨ i % 5 = 4 by omega) with r | r | r | r | r <;> rw [e, r]
    · exact .inl ⟨_, h.live (i / 5) (by omega)⟩
    · exact .inr (.inl ⟨_, h.stamp (i / 5) (by omega)⟩)
    · exact .inr (.inl ⟨_, h.links (i / 5) (by omega)⟩)
    · exact .inr (.inl ⟨_, h.part (i / 5) 0 (by omega) (by omega)⟩)
    · exact .inr (.inl ⟨_, h.part (i / 5) 1 (by omega) (by omega)⟩)
  · by_cases h2 : i < 76
    · have e : i = 40 + (i - 40) / 12 * 12 + (i - 40) % 12 / 3 * 3 + (i - 40) % 3 := by omega
      rcases (show (i - 40) % 3 = 0 ∨ (i - 40) % 3 = 1 ∨ (i - 40) % 3 = 2 by omega) with r | r | r <;> rw [e, r]
      · exact .inr (.inr ⟨_, h.name ((i - 40) / 12) ((i - 40) % 12 / 3) (by omega) (by omega)⟩)
      · exact .inr (.inl ⟨_, h.ino ((i - 40) / 12) ((i - 40) % 12 / 3) (by omega) (by omega)⟩)
      · exact .inr (.inl ⟨_, h.est ((i - 40) / 12) ((i - 40) % 12 / 3) (by omega) (by omega)⟩)
    · have e : i = 76 + (i - 76) / 2 * 2 + (i - 76) % 2 := by omega
      rcases (show (i - 76) % 2 = 0 ∨ (i - 76) % 2 = 1 by omega) with r | r <;> rw [e, r]
      · exact .inr (.inl ⟨_, h.of ((i - 76) / 2) (by omega)⟩)
      · exact .inr (.inr ⟨_, h.text ((i - 76) / 2) (by omega)⟩)
theorem IsImg.all {cs : Array Value} {m : Img} (h : IsImg cs m) : cs.all (·.oneCell') = true := by
  rw [Array.all_eq_true]
  intro i hi
  have hg : cs[i]? = some cs[i] := by simp [hi]
  rcases h.cell_at i (by rw [h.size] at hi; exact hi) with ⟨b, e⟩ | ⟨b, e⟩ | ⟨b, e⟩
  all_goals
    rw [hg] at e
    rw [Option.some.inj e]; rfl
theorem IsImg.agree {cs ds : Array Value} {m k : Img} (h : IsImg cs m) (h' : IsImg ds k) (a : Img.Agree m k) : cs = ds := by
  refine Array.ext_getElem? fun i => ?_
  by_cases hi : i < 94
  · by_cases h1 : i < 40
    · have e : i = i / 5 * 5 + i % 5 := by omega
      have hn : i / 5 < 8 := by omega
      rcases (show i % 5 = 0 ∨ i % 5 = 1 ∨ i % 5 = 2 ∨ i % 5 = 3 ∨ i % 5 = 4 by omega) with r | r | r | r | r <;> rw [e, r]
      · exact (h.live _ hn).trans (by rw [a.live _ hn]; exact (h'.live _ hn).symm)
      · exact (h.stamp _ hn).trans (by rw [a.stamp _ hn]; exact (h'.stamp _ hn).symm)
      · exact (h.links _ hn).trans (by rw [a.links _ hn]; exact (h'.links _ hn).symm)
      · exact (h.part _ 0 hn (by omega)).trans (by rw [a.part _ _ hn (by omega)]; exact (h'.part _ 0 hn (by omega)).symm)
      · exact (h.part _ 1 hn (by omega)).trans (by rw [a.part _ _ hn (by omega)]; exact (h'.part _ 1 hn (by omega)).symm)
    · by_cases h2 : i < 76
      · have e : i = 40 + (i - 40) / 12 * 12 + (i - 40) % 12 / 3 * 3 + (i - 40) % 3 := by omega
        have hd : (i - 40) / 12 < 3 := by omega
        have hs : (i - 40) % 12 / 3 < 4 := by omega
        rcases (show (i - 40) % 3 = 0 ∨ (i - 40) % 3 = 1 ∨ (i - 40) % 3 = 2 by omega) with r | r | r <;> rw [e, r]
        · exact (h.name _ _ hd hs).trans (by rw [a.name _ _ hd hs]; exact (h'.name _ _ hd hs).symm)
        · exact (h.ino _ _ hd hs).trans (by rw [a.ino _ _ hd hs]; exact (h'.ino _ _ hd hs).symm)
        · exact (h.est _ _ hd hs).trans (by rw [a.est _ _ hd hs]; exact (h'.est _ _ hd hs).symm)
      · have e : i = 76 + (i - 76) / 2 * 2 + (i - 76) % 2 := by omega
        have hx : (i - 76) / 2 < 9 := by omega
        rcases (show (i - 76) % 2 = 0 ∨ (i - 76) % 2 = 1 by omega) with r | r <;> rw [e, r]
        · exact (h.of _ hx).trans (by rw [a.of _ hx]; exact (h'.of _ hx).symm)
        · exact (h.text _ hx).trans (by rw [a.text _ hx]; exact (h'.text _ hx).symm)
  · rw [Array.getElem?_eq_none (by rw [h.size]; omega), Array.getElem?_eq_none (by rw [h'.size]; omega)]
end Go.Proofs.YtlbgkpibaahglacDoor
