/-
  Rising lists of names, each with a number. No Go in here but its order of texts.
-/
import Derived.WalkKit
namespace Go.Proofs.YtmbpckmpnnmnmacGreat
namespace Idl
def lt (a b : ByteArray) : Bool := Op.bytesLess a.toList b.toList
theorem bl_irrefl : ∀ l : List UInt8, Op.bytesLess l l = false
  | [] => rfl
  | a :: l => by simp [Op.bytesLess, bl_irrefl l]
theorem bl_trans : ∀ {a b c : List UInt8}, Op.bytesLess a b = true → Op.bytesLess b c = true → Op.bytesLess a c = true
  | _, _, [], _, h2 => by simp [Op.bytesLess] at h2
  | _, [], _ :: _, h1, _ => by simp [Op.bytesLess] at h1
  | [], _ :: _, _ :: _, _, _ => by simp [Op.bytesLess]
  | x :: a, y :: b, z :: c, h1, h2 => by
    simp only [Op.bytesLess, Bool.or_eq_true, decide_eq_true_eq, Bool.and_eq_true, beq_iff_eq] at h1 h2 ⊢
    rcases h1 with h1 | ⟨rfl, h1⟩ <;> rcases h2 with h2 | ⟨rfl, h2⟩
    · exact .inl (UInt8.lt_trans h1 h2)
    · exact .inl h1
    · exact .inl h2
    · exact .inr ⟨rfl, bl_trans h1 h2⟩
theorem bl_tri : ∀ {a b : List UInt8}, Op.bytesLess a b = false → Op.bytesLess b a = false → a = b
  | [], [], _, _ => rfl
  | [], _ :: _, h1, _ => by simp [Op.bytesLess] at h1
  | _ :: _, [], _, h2 => by simp [Op.bytesLess] at h2
  | x :: a, y :: b, h1, h2 => by
    simp only [Op.bytesLess, Bool.or_eq_false_iff, decide_eq_false_iff_not, Bool.and_eq_false_iff, beq_eq_false_iff_ne] at h1 h2
    have e : x = y := by
      have n1 := h1.1
      have n2 := h2.1
      rw [UInt8.lt_iff_toNat_lt] at n1 n2
      exact UInt8.toNat_inj.1 (by omega)
    subst e
    have e2 : a = b := bl_tri (by rcases h1.2 with h | h; exact absurd rfl h; exact h) (by rcases h2.2 with h | h; exact absurd rfl h; exact h)
    rw [e2]
theorem toList_inj {a b : ByteArray} (h : a.toList = b.toList) : a = b := by
  rw [ByteArray.toList_eq, ByteArray.toList_eq] at h
  cases a; cases b
  simp at h
  rw [h]
theorem lt_irrefl (a : ByteArray) : lt a a = false := bl_irrefl _
theorem lt_trans {a b c : ByteArray} (h1 : lt a b = true) (h2 : lt b c = true) : lt a c = true := bl_trans h1 h2
theorem lt_tri {a b : ByteArray} (h1 : lt a b = false) (h2 : lt b a = false) : a = b := toList_inj (bl_tri h1 h2)
theorem lt_asymm {a b : ByteArray} (h : lt a b = true) : lt b a = false := by
  cases h2 : lt b a with
  | false => rfl
  | true => have := lt_trans h h2; rw [lt_irrefl] at this; cases this
theorem lt_ne {a b : ByteArray} (h : lt a b = true) : a ≠ b := fun e => by rw [e, lt_irrefl] at h; cases h
def keq (a b : ByteArray) : Bool := a.toList == b.toList
theorem keq_iff {a b : ByteArray} : keq a b = true ↔ a = b := by
  unfold keq
  rw [beq_iff_eq]
  exact ⟨toList_inj, fun h => by rw [h]⟩
theorem keq_self (a : ByteArray) : keq a a = true := keq_iff.2 rfl
theorem keq_false {a b : ByteArray} : keq a b = false ↔ a ≠ b := by
  rw [← Bool.not_eq_true, keq_iff]
theorem keq_comm (a b : ByteArray) : keq a b = keq b a := by
  cases h : keq a b
  · exact (keq_false.2 fun e => keq_false.1 h e.symm).symm
  · exact (keq_iff.2 (keq_iff.1 h).symm).symm
abbrev Ent := ByteArray × Nat
def pl (l : List Ent) (s : ByteArray) : Nat := l.countP fun e => lt e.1 s
def look (l : List Ent) (s : ByteArray) : Option Nat := (l.find? fun e => keq e.1 s).map (·.2)
def ins (l : List Ent) (s : ByteArray) (n : Nat) : List Ent := l.take (pl l s) ++ (s, n) :: l.drop (pl l s)
def del (l : List Ent) (s : ByteArray) : List Ent := l.take (pl l s) ++ l.drop (pl l s + 1)
def Rising (l : List Ent) : Prop := l.Pairwise fun a b => lt a.1 b.1 = true
/-- the list parts at the place -/
theorem split : ∀ {l : List Ent}, Rising l → ∀ s, ∃ l1 l2, l = l1 ++ l2 ∧ pl l s = l1.length ∧ (∀ e ∈ l1, lt e.1 s = true) ∧ (∀ e ∈ l2, lt e.1 s = false)
  | [], _, s => ⟨[], [], rfl, rfl, by simp, by simp⟩
  | e :: l, h, s => by
    have h' := List.pairwise_cons.1 h
    obtain ⟨l1, l2, rfl, hp, h1, h2⟩ := split h'.2 s
    cases he : lt e.1 s
    · refine ⟨[], e :: (l1 ++ l2), rfl, ?_, by simp, ?_⟩
      · have hall : ∀ x ∈ l1 ++ l2, lt x.1 s = false := fun x hx => by
          cases hx' : lt x.1 s with
          | false => rfl
          | true => have := lt_trans (h'.1 x hx) hx'; rw [he] at this; cases this
        simp only [pl, List.countP_cons, he, List.length_nil]
        rw [List.countP_eq_zero.2 (fun x hx => by rw [hall x hx]; simp)]
        rfl
      · intro x hx
        rcases List.mem_cons.1 hx with rfl | hx
        · exact he
        · cases hx' : lt x.1 s with
          | false => rfl
          | true => have := lt_trans (h'.1 x hx) hx'; rw [he] at this; cases this
    · refine ⟨e :: l1, l2, rfl, ?_, ?_, h2⟩
      · simp only [pl, List.countP_cons, he, List.length_cons] at hp ⊢
        rw [hp]; rfl
      · intro x hx
        rcases List.mem_cons.1 hx with rfl | hx
        · exact he
        · exact h1 x hx
theorem look_app (l1 l2 : List Ent) (s : ByteArray) (h1 : ∀ e ∈ l1, e.1 ≠ s) : look (l1 ++ l2) s = look l2 s := by
  unfold look
  rw [List.find?_append, List.find?_eq_none.2 (fun x hx => by simpa [keq_iff] using h1 x hx)]
  simp
theorem look_cons_eq (l : List Ent) (s : ByteArray) (n : Nat) : look ((s, n) :: l) s = some n := by
  simp [look, keq_self]
theorem look_cons_ne (l : List Ent) (e : Ent) (s : ByteArray) (h : e.1 ≠ s) : look (e :: l) s = look l s := by
  simp [look, keq_false.2 h]
theorem look_none_of {l : List Ent} {s : ByteArray} (h : ∀ e ∈ l, e.1 ≠ s) : look l s = none := by
  have := look_app l [] s h
  rw [List.append_nil] at this
  rw [this]; rfl
theorem look_none {l : List Ent} {s : ByteArray} (h : look l s = none) : ∀ e ∈ l, e.1 ≠ s := fun e he => by
  simp only [look, Option.map_eq_none_iff, List.find?_eq_none] at h
  have := h e he
  simpa [keq_iff] using this
theorem look_some {l : List Ent} {s : ByteArray} {n : Nat} (h : look l s = some n) : (s, n) ∈ l := by
  simp only [look, Option.map_eq_some_iff] at h
  obtain ⟨⟨a, b⟩, h1, rfl⟩ := h
  have h2 := List.find?_some h1
  have h3 := List.mem_of_find?_eq_some h1
  have : a = s := keq_iff.1 h2
  subst this
  exact h3
theorem look_mem {l : List Ent} (h : Rising l) {e : Ent} (he : e ∈ l) : look l e.1 = some e.2 := by
  induction l with
  | nil => cases he
  | cons a l ih =>
    have h' := List.pairwise_cons.1 h
    rcases List.mem_cons.1 he with rfl | he
    · exact look_cons_eq _ _ _
    · rw [look_cons_ne _ _ _ (lt_ne (h'.1 e he))]
      exact ih h'.2 he
/-- where the name stands, if it does -/
theorem at_place {l : List Ent} (h : Rising l) (s : ByteArray) :
    (look l s = none ∧ (∀ hp : pl l s < l.length, (l[pl l s]'hp).1 ≠ s)) ∨ (∃ n, look l s = some n ∧ ∃ hp : pl l s < l.length, l[pl l s]'hp = (s, n)) := by
  obtain ⟨l1, l2, rfl, hp, h1, h2⟩ := split h s
  rw [look_app l1 l2 s (fun e he => lt_ne (h1 e he))]
  cases l2 with
  | nil => left; exact ⟨rfl, fun hq => by rw [hp] at hq; simp at hq⟩
  | cons e l2 =>
    have hg : ∀ hq : pl (l1 ++ e :: l2) s < (l1 ++ e :: l2).length, (l1 ++ e :: l2)[pl (l1 ++ e :: l2) s]'hq = e := fun hq => by
      simp only [hp]
      rw [List.getElem_append_right (Nat.le_refl _)]
      simp
    by_cases hs : e.1 = s
    · right
      subst hs
      exact ⟨e.2, look_cons_eq _ _ _, by rw [hp]; simp, hg _⟩
    · left
      refine ⟨?_, fun hq => by rw [hg hq]; exact hs⟩
      have hr : Rising (e :: l2) := (List.pairwise_append.1 h).2.1
      have h' := List.pairwise_cons.1 hr
      rw [look_cons_ne _ _ _ hs]
      have hse : lt s e.1 = true := by
        cases hh : lt s e.1 with
        | true => rfl
        | false => exact absurd (lt_tri (h2 e (by simp)) hh) hs
      exact look_none_of fun x hx => fun ex => by
        have := lt_trans hse (h'.1 x hx)
        rw [ex, lt_irrefl] at this; cases this
theorem pl_le {l : List Ent} (s : ByteArray) : pl l s ≤ l.length := List.countP_le_length
/-- the tests of the search -/
theorem below_pl {l : List Ent} (h : Rising l) (s : ByteArray) (i : Nat) (hi : i < l.length) : lt (l[i]).1 s = decide (i < pl l s) := by
  obtain ⟨l1, l2, rfl, hp, h1, h2⟩ := split h s
  rw [hp]
  by_cases hlt : i < l1.length
  · rw [List.getElem_append_left hlt, h1 _ (List.getElem_mem _)]; simp [hlt]
  · rw [List.getElem_append_right (by omega), h2 _ (List.getElem_mem _)]; simp [hlt]
theorem ins_len (l : List Ent) (s : ByteArray) (n : Nat) : (ins l s n).length = l.length + 1 := by
  have := pl_le (l := l) s
  simp [ins]; omega
theorem del_len {l : List Ent} (h : Rising l) {s : ByteArray} {n : Nat} (hl : look l s = some n) : (del l s).length + 1 = l.length := by
  rcases at_place h s with ⟨h1, _⟩ | ⟨m, _, hp, _⟩
  · rw [h1] at hl; cases hl
  · simp [del]; omega
theorem ins_eq {l1 l2 : List Ent} {s : ByteArray} {n : Nat} (hp : pl (l1 ++ l2) s = l1.length) : ins (l1 ++ l2) s n = l1 ++ (s, n) :: l2 := by
  simp [ins, hp]
theorem ins_rising {l : List Ent} (h : Rising l) {s : ByteArray} (n : Nat) (hl : look l s = none) : Rising (ins l s n) := by
  obtain ⟨l1, l2, rfl, hp, h1, h2⟩ := split h s
  rw [ins_eq hp]
  have h' := List.pairwise_append.1 h
  have h3 : ∀ e ∈ l2, lt s e.1 = true := fun e he => by
    cases hh : lt s e.1 with
    | true => rfl
    | false => exact absurd (lt_tri (h2 e he) hh) (look_none hl e (by simp [he]))
  refine List.pairwise_append.2 ⟨h'.1, List.pairwise_cons.2 ⟨h3, h'.2.1⟩, fun a ha b hb => ?_⟩
  rcases List.mem_cons.1 hb with rfl | hb
  · exact h1 a ha
  · exact h'.2.2 a ha b hb
theorem ins_look {l : List Ent} (h : Rising l) {s : ByteArray} (n : Nat) (t : ByteArray) : look (ins l s n) t = if keq s t then some n else look l t := by
  obtain ⟨l1, l2, rfl, hp, h1, h2⟩ := split h s
  rw [ins_eq hp]
  by_cases e : s = t
  · subst e
    rw [look_app _ _ _ (fun e he => lt_ne (h1 e he)), look_cons_eq, keq_self]; rfl
  · rw [keq_false.2 e]
    simp only [look, List.find?_append, List.find?_cons, keq_false.2 e]
    rfl
theorem del_eq {l1 l2 : List Ent} {e : Ent} {s : ByteArray} (hp : pl (l1 ++ e :: l2) s = l1.length) : del (l1 ++ e :: l2) s = l1 ++ l2 := by
  simp [del, hp]
theorem del_parts {l : List Ent} (h : Rising l) {s : ByteArray} {n : Nat} (hl : look l s = some n) : ∃ l1 l2, l = l1 ++ (s, n) :: l2 ∧ del l s = l1 ++ l2 ∧ pl l s = l1.length := by
  obtain ⟨l1, l2, rfl, hp, h1, h2⟩ := split h s
  rcases at_place h s with ⟨h3, _⟩ | ⟨m, hm, hq, he⟩
  · rw [h3] at hl; cases hl
  · rw [hl] at hm; cases hm
    cases l2 with
    | nil => rw [hp] at hq; simp at hq
    | cons e l2 =>
      have : (l1 ++ e :: l2)[pl (l1 ++ e :: l2) s]'hq = e := by
        simp only [hp]
        rw [List.getElem_append_right (Nat.le_refl _)]
        simp
      rw [this] at he
      subst he
      exact ⟨l1, l2, rfl, del_eq hp, hp⟩
theorem del_rising {l : List Ent} (h : Rising l) {s : ByteArray} {n : Nat} (hl : look l s = some n) : Rising (del l s) := by
  obtain ⟨l1, l2, rfl, hd, _⟩ := del_parts h hl
  rw [hd]
  have h' := List.pairwise_append.1 h
  exact List.pairwise_append.2 ⟨h'.1, (List.pairwise_cons.1 h'.2.1).2, fun a ha b hb => h'.2.2 a ha b (by simp [hb])⟩
theorem del_look {l : List Ent} (h : Rising l) {s : ByteArray} {n : Nat} (hl : look l s = some n) (t : ByteArray) : look (del l s) t = if keq s t then none else look l t := by
  have hr := del_rising h hl
  obtain ⟨l1, l2, rfl, hd, _⟩ := del_parts h hl
  rw [hd] at hr ⊢
  have h' := List.pairwise_append.1 h
  by_cases e : s = t
  · subst e
    rw [keq_self, if_pos rfl]
    refine look_none_of fun x hx => ?_
    rcases List.mem_append.1 hx with hx | hx
    · exact lt_ne (h'.2.2 x hx (s, n) (by simp))
    · exact fun ex => lt_ne ((List.pairwise_cons.1 h'.2.1).1 x hx) ex.symm
  · rw [keq_false.2 e]
    simp only [look, List.find?_append, List.find?_cons, keq_false.2 e]
    rfl
/-- two rising lists in which the same is found are one -/
theorem rising_ext : ∀ {l k : List Ent}, Rising l → Rising k → (∀ s, look l s = look k s) → l = k
  | [], [], _, _, _ => rfl
  | [], e :: k, _, _, h => by have := h e.1; rw [show look (e :: k) e.1 = some e.2 from look_cons_eq _ _ _] at this; cases this
  | e :: l, [], _, _, h => by have := h e.1; rw [show look (e :: l) e.1 = some e.2 from look_cons_eq _ _ _] at this; cases this
  | a :: l, b :: k, hl, hk, h => by
    have hl' := List.pairwise_cons.1 hl
    have hk' := List.pairwise_cons.1 hk
    have hab : a.1 = b.1 := by
      refine lt_tri ?_ ?_
      · cases hh : lt a.1 b.1 with
        | false => rfl
        | true =>
          have := h a.1
          rw [show look (a :: l) a.1 = some a.2 from look_cons_eq _ _ _, look_none_of (fun x hx => by
            rcases List.mem_cons.1 hx with rfl | hx
            · exact fun e => lt_ne hh e.symm
            · exact fun e => lt_ne (lt_trans hh (hk'.1 x hx)) e.symm)] at this
          cases this
      · cases hh : lt b.1 a.1 with
        | false => rfl
        | true =>
          have := h b.1
          rw [show look (b :: k) b.1 = some b.2 from look_cons_eq _ _ _, look_none_of (fun x hx => by
            rcases List.mem_cons.1 hx with rfl | hx
            · exact fun e => lt_ne hh e.symm
            · exact fun e => lt_ne (lt_trans hh (hl'.1 x hx)) e.symm)] at this
          cases this
    have h2 : a.2 = b.2 := by
      have := h a.1
      rw [show look (a :: l) a.1 = some a.2 from look_cons_eq _ _ _, hab, show look (b :: k) b.1 = some b.2 from look_cons_eq _ _ _] at this
      exact Option.some.inj this
    have e : a = b := Prod.ext hab h2
    subst e
    rw [rising_ext hl'.2 hk'.2 (fun s => ?_)]
    by_cases hs : a.1 = s
    · subst hs
      rw [look_none_of (fun x hx => fun e => lt_ne (hl'.1 x hx) e.symm), look_none_of (fun x hx => fun e => lt_ne (hk'.1 x hx) e.symm)]
    · have := h s
      rwa [look_cons_ne _ _ _ hs, look_cons_ne _ _ _ hs] at this
end Idl
end Go.Proofs.YtmbpckmpnnmnmacGreat
