/-
  The reference's world without a disk, as plain data: tags in the order of their coming. No Go in here.
-/
import Derived.Test.YtmhbphmdfnlmkaaIb
namespace Go.Proofs.Ytmhbphmdfnlmkaa
namespace Idl
structure Tg where
  dir : Int
  name : ByteArray
  file : Nat
/-- where a name stands -/
def tagAt (l : List Tg) (d : Int) (s : ByteArray) : Option Nat := l.findIdx? fun t => t.dir == d && keq t.name s
/-- the tags of a state: each name of each directory once, with its file -/
structure Tags (S : St) (l : List Tg) : Prop where
  dirs : ∀ t ∈ l, isD t.dir = true
  apart : l.Pairwise fun a b => ¬ (a.dir = b.dir ∧ a.name = b.name)
  file : ∀ t ∈ l, lookS S t.dir t.name = some t.file
  all : ∀ d s n, lookS S d s = some n → ∃ t ∈ l, t.dir = d ∧ t.name = s
theorem Tags.empty : Tags St.empty [] := ⟨fun _ h => (by cases h), List.Pairwise.nil, fun _ h => (by cases h), fun d s n h => by
  unfold lookS at h
  split at h
  · cases h
  · cases h⟩
theorem tagAt_none {S : St} {l : List Tg} (h : Tags S l) {d : Int} {s : ByteArray} : tagAt l d s = none ↔ lookS S d s = none := by
  unfold tagAt
  rw [List.findIdx?_eq_none_iff]
  constructor
  · intro h1
    cases e : lookS S d s with
    | none => rfl
    | some n =>
      obtain ⟨t, ht, e1, e2⟩ := h.all d s n e
      have := h1 t ht
      rw [e1, e2, keq_self] at this
      simp at this
  · intro h1 t ht
    by_cases e : t.dir = d ∧ t.name = s
    · have := h.file t ht
      rw [e.1, e.2, h1] at this; cases this
    · simp only [Bool.and_eq_false_iff, beq_eq_false_iff_ne, keq_false]
      by_cases e1 : t.dir = d
      · exact .inr fun e2 => e ⟨e1, e2⟩
      · exact .inl e1
theorem tagAt_some {S : St} {l : List Tg} (h : Tags S l) {d : Int} {s : ByteArray} {i : Nat} (hi : tagAt l d s = some i) : ∃ hl : i < l.length, l[i].dir = d ∧ l[i].name = s ∧ lookS S d s = some l[i].file := by
  unfold tagAt at hi
  rw [List.findIdx?_eq_some_iff_getElem] at hi
  obtain ⟨hl, hp, _⟩ := hi
  simp only [Bool.and_eq_true, beq_iff_eq, keq_iff] at hp
  have := h.file l[i] (List.getElem_mem hl)
  rw [hp.1, hp.2] at this
  exact ⟨hl, hp.1, hp.2, this⟩
/-- a name more -/
theorem Tags.add {S S' : St} {l : List Tg} (h : Tags S l) {d : Int} {s : ByteArray} {n : Nat} (hd : isD d = true) (hn : lookS S d s = none)
    (hS : ∀ e t, lookS S' e t = if e = d ∧ t = s then some n else lookS S e t) : Tags S' (l ++ [⟨d, s, n⟩]) := by
  refine ⟨fun t ht => ?_, ?_, fun t ht => ?_, fun e t k hk => ?_⟩
  · rcases List.mem_append.1 ht with z | z
    · exact h.dirs t z
    · rw [List.mem_singleton] at z; subst z; exact hd
  · rw [List.pairwise_append]
    refine ⟨h.apart, List.pairwise_singleton _ _, fun a ha b hb => ?_⟩
    rw [List.mem_singleton] at hb
    subst hb
    rintro ⟨e1, e2⟩
    have := h.file a ha
    rw [e1, e2] at this
    have hn' : lookS S d s = none := hn
    rw [show lookS S (Tg.dir ⟨d, s, n⟩) (Tg.name ⟨d, s, n⟩) = lookS S d s from rfl, hn'] at this
    cases this
  · rcases List.mem_append.1 ht with z | z
    · rw [hS, if_neg]
      · exact h.file t z
      · rintro ⟨e1, e2⟩
        have := h.file t z
        rw [e1, e2, hn] at this; cases this
    · rw [List.mem_singleton] at z
      subst z
      rw [hS, if_pos ⟨rfl, rfl⟩]
  · rw [hS] at hk
    by_cases e1 : e = d ∧ t = s
    · exact ⟨_, List.mem_append.2 (.inr (List.mem_singleton.2 rfl)), e1.1.symm, e1.2.symm⟩
    · rw [if_neg e1] at hk
      obtain ⟨u, hu, h1, h2⟩ := h.all e t k hk
      exact ⟨u, List.mem_append.2 (.inl hu), h1, h2⟩
/-- a name less -/
theorem Tags.drop {S S' : St} {l : List Tg} (h : Tags S l) {d : Int} {s : ByteArray} {i : Nat} (hi : tagAt l d s = some i)
    (hS : ∀ e t, lookS S' e t = if e = d ∧ t = s then none else lookS S e t) : Tags S' (l.take i ++ l.drop (i + 1)) := by
  obtain ⟨hl, e1, e2, e3⟩ := tagAt_some h hi
  have hsub : (l.take i ++ l.drop (i + 1)).Sublist l := by
    rw [← List.eraseIdx_eq_take_drop_succ]; exact List.eraseIdx_sublist l i
  have hsplit : l = l.take i ++ l[i] :: l.drop (i + 1) := by rw [List.getElem_cons_drop]; simp
  have hap := h.apart
  have hne : ∀ t ∈ l.take i ++ l.drop (i + 1), ¬ (t.dir = d ∧ t.name = s) := fun t ht hc => by
    rw [hsplit] at hap
    rw [List.pairwise_append, List.pairwise_cons] at hap
    obtain ⟨_, ⟨h2, _⟩, h3⟩ := hap
    rcases List.mem_append.1 ht with z | z
    · exact h3 t z l[i] (List.mem_cons_self ..) ⟨by rw [hc.1, e1], by rw [hc.2, e2]⟩
    · exact h2 t z ⟨by rw [hc.1, e1], by rw [hc.2, e2]⟩
  refine ⟨fun t ht => h.dirs t (hsub.subset ht), h.apart.sublist hsub, fun t ht => ?_, fun e t k hk => ?_⟩
  · rw [hS, if_neg (hne t ht)]
    exact h.file t (hsub.subset ht)
  · rw [hS] at hk
    by_cases c : e = d ∧ t = s
    · rw [if_pos c] at hk; cases hk
    · rw [if_neg c] at hk
      obtain ⟨u, hu, h1, h2⟩ := h.all e t k hk
      refine ⟨u, ?_, h1, h2⟩
      rw [hsplit] at hu
      rcases List.mem_append.1 hu with z | z
      · exact List.mem_append.2 (.inl z)
      · rcases List.mem_cons.1 z with z | z
        · exfalso
          rw [z, e1] at h1
          rw [z, e2] at h2
          exact c ⟨h1.symm, h2.symm⟩
        · exact List.mem_append.2 (.inr z)
/-! the list of names: each put to its place -/
def plN (l : List ByteArray) (s : ByteArray) : Nat := (l.takeWhile fun e => lt e s).length
def insN (l : List ByteArray) (s : ByteArray) : List ByteArray := l.take (plN l s) ++ s :: l.drop (plN l s)
def RiseN (l : List ByteArray) : Prop := l.Pairwise fun a b => lt a b = true
def namesOf : List Tg → Int → List ByteArray → List ByteArray
  | [], _, out => out
  | t :: l, d, out => namesOf l d (if t.dir = d then insN out t.name else out)
theorem plN_split (l : List ByteArray) (s : ByteArray) : l.take (plN l s) = l.takeWhile (fun e => lt e s) ∧ l.drop (plN l s) = l.dropWhile (fun e => lt e s) := by
  have h1 : (l.takeWhile (fun e => lt e s) ++ l.dropWhile (fun e => lt e s)).take (l.takeWhile fun e => lt e s).length = l.takeWhile (fun e => lt e s) := List.take_left
  have h2 : (l.takeWhile (fun e => lt e s) ++ l.dropWhile (fun e => lt e s)).drop (l.takeWhile fun e => lt e s).length = l.dropWhile (fun e => lt e s) := List.drop_left
  rw [List.takeWhile_append_dropWhile] at h1 h2
  exact ⟨h1, h2⟩
theorem mem_insN {l : List ByteArray} {s t : ByteArray} : t ∈ insN l s ↔ t = s ∨ t ∈ l := by
  unfold insN
  rw [List.mem_append, List.mem_cons]
  have h : t ∈ l ↔ t ∈ l.take (plN l s) ∨ t ∈ l.drop (plN l s) := by
    conv => lhs; rw [← List.take_append_drop (plN l s) l]
    exact List.mem_append
  rw [h]
  constructor
  · rintro (z | z | z)
    · exact .inr (.inl z)
    · exact .inl z
    · exact .inr (.inr z)
  · rintro (z | z | z)
    · exact .inr (.inl z)
    · exact .inl z
    · exact .inr (.inr z)
theorem insN_rise {l : List ByteArray} (h : RiseN l) {s : ByteArray} (hs : s ∉ l) : RiseN (insN l s) := by
  unfold insN
  obtain ⟨e1, e2⟩ := plN_split l s
  rw [e1, e2]
  have hw : RiseN (l.takeWhile (fun e => lt e s) ++ l.dropWhile (fun e => lt e s)) := by rw [List.takeWhile_append_dropWhile]; exact h
  unfold RiseN at hw ⊢
  rw [List.pairwise_append] at hw
  obtain ⟨h1, h2, h3⟩ := hw
  have low : ∀ a ∈ l.takeWhile (fun e => lt e s), lt a s = true := fun a ha => by
    have := List.all_takeWhile (p := fun e => lt e s) (l := l)
    rw [List.all_eq_true] at this
    exact this a ha
  have high : ∀ b ∈ l.dropWhile (fun e => lt e s), lt s b = true := by
    cases hd : l.dropWhile (fun e => lt e s) with
    | nil => intro b hb; cases hb
    | cons a r =>
      rw [hd] at h2
      rw [List.pairwise_cons] at h2
      have hmem : a ∈ l := (List.dropWhile_sublist (p := fun e => lt e s) (l := l)).subset (by rw [hd]; exact List.mem_cons_self ..)
      have ha : lt a s = false := by
        have := List.head?_dropWhile_not (fun e => lt e s) l
        rw [hd] at this
        simpa using this
      have hsa : lt s a = true := by
        cases e : lt s a
        · exact absurd (lt_tri ha e ▸ hmem) hs
        · rfl
      intro b hb
      rcases List.mem_cons.1 hb with rfl | hb
      · exact hsa
      · exact lt_trans hsa (h2.1 b hb)
  rw [List.pairwise_append, List.pairwise_cons]
  refine ⟨h1, ⟨high, h2⟩, fun a ha b hb => ?_⟩
  rcases List.mem_cons.1 hb with rfl | hb
  · exact low a ha
  · exact lt_trans (low a ha) (high b hb)
theorem riseN_ext : ∀ {l k : List ByteArray}, RiseN l → RiseN k → (∀ s, s ∈ l ↔ s ∈ k) → l = k
  | [], [], _, _, _ => rfl
  | [], b :: k, _, _, h => by have := (h b).2 (List.mem_cons_self ..); cases this
  | a :: l, [], _, _, h => by have := (h a).1 (List.mem_cons_self ..); cases this
  | a :: l, b :: k, hl, hk, h => by
    unfold RiseN at hl hk
    rw [List.pairwise_cons] at hl hk
    have hab : a = b := by
      rcases List.mem_cons.1 ((h a).1 (List.mem_cons_self ..)) with e | e
      · exact e
      · rcases List.mem_cons.1 ((h b).2 (List.mem_cons_self ..)) with e' | e'
        · exact e'.symm
        · have h1 := hk.1 a e
          have h2 := hl.1 b e'
          rw [lt_asymm h1] at h2; cases h2
    subst hab
    congr 1
    refine riseN_ext hl.2 hk.2 fun s => ⟨fun hs => ?_, fun hs => ?_⟩
    · rcases List.mem_cons.1 ((h s).1 (List.mem_cons_of_mem _ hs)) with e | e
      · subst e
        have := hl.1 s hs
        rw [lt_irrefl] at this; cases this
      · exact e
    · rcases List.mem_cons.1 ((h s).2 (List.mem_cons_of_mem _ hs)) with e | e
      · subst e
        have := hk.1 s hs
        rw [lt_irrefl] at this; cases this
      · exact e
theorem namesOf_ok : ∀ (l : List Tg) (d : Int) (out : List ByteArray), RiseN out → (l.Pairwise fun a b => ¬ (a.dir = b.dir ∧ a.name = b.name)) → (∀ t ∈ l, t.dir = d → t.name ∉ out) →
    RiseN (namesOf l d out) ∧ ∀ s, s ∈ namesOf l d out ↔ s ∈ out ∨ ∃ t ∈ l, t.dir = d ∧ t.name = s
  | [], d, out, h, _, _ => ⟨h, fun s => ⟨fun z => .inl z, fun z => by
      rcases z with z | ⟨t, ht, _⟩
      · exact z
      · cases ht⟩⟩
  | t :: l, d, out, h, hp, hn => by
    rw [List.pairwise_cons] at hp
    unfold namesOf
    by_cases e : t.dir = d
    · rw [if_pos e]
      obtain ⟨h1, h2⟩ := namesOf_ok l d (insN out t.name) (insN_rise h (hn t (List.mem_cons_self ..) e)) hp.2 (fun u hu hud => by
        rw [mem_insN]
        rintro (z | z)
        · exact hp.1 u hu ⟨by rw [e, hud], z.symm⟩
        · exact hn u (List.mem_cons_of_mem _ hu) hud z)
      refine ⟨h1, fun s => ?_⟩
      rw [h2, mem_insN]
      constructor
      · rintro ((z | z) | ⟨u, hu, a, b⟩)
        · exact .inr ⟨t, List.mem_cons_self .., e, z.symm⟩
        · exact .inl z
        · exact .inr ⟨u, List.mem_cons_of_mem _ hu, a, b⟩
      · rintro (z | ⟨u, hu, a, b⟩)
        · exact .inl (.inr z)
        · rcases List.mem_cons.1 hu with rfl | hu
          · exact .inl (.inl b.symm)
          · exact .inr ⟨u, hu, a, b⟩
    · rw [if_neg e]
      obtain ⟨h1, h2⟩ := namesOf_ok l d out h hp.2 (fun u hu => hn u (List.mem_cons_of_mem _ hu))
      refine ⟨h1, fun s => ?_⟩
      rw [h2]
      constructor
      · rintro (z | ⟨u, hu, a, b⟩)
        · exact .inl z
        · exact .inr ⟨u, List.mem_cons_of_mem _ hu, a, b⟩
      · rintro (z | ⟨u, hu, a, b⟩)
        · exact .inl z
        · rcases List.mem_cons.1 hu with rfl | hu
          · exact absurd a e
          · exact .inr ⟨u, hu, a, b⟩
/-- the reference's list of a directory's names is the world's -/
theorem names_same {S : St} {l : List Tg} (h : Tags S l) (hI : Inv S) (d : Int) : namesOf l d [] = names S d := by
  obtain ⟨h1, h2⟩ := namesOf_ok l d [] List.Pairwise.nil h.apart (fun _ _ _ hz => by cases hz)
  cases hd : isD d
  · have e : names S d = [] := by unfold names; rw [hd]; rfl
    rw [e]
    cases hn : namesOf l d [] with
    | nil => rfl
    | cons a r =>
      exfalso
      have := (h2 a).1 (by rw [hn]; exact List.mem_cons_self ..)
      rcases this with z | ⟨t, ht, e1, _⟩
      · cases z
      · have := h.dirs t ht
        rw [e1, hd] at this; cases this
  · have e : names S d = (S.dir d.toNat).map (·.1) := by unfold names; rw [hd]; rfl
    rw [e]
    refine riseN_ext h1 ?_ fun s => ?_
    · unfold RiseN
      rw [List.pairwise_map]
      exact hI.rise d.toNat
    · rw [h2]
      constructor
      · rintro (z | ⟨t, ht, e1, e2⟩)
        · cases z
        · have := h.file t ht
          rw [e1, e2, lookS_in hd] at this
          exact List.mem_map.2 ⟨_, look_some this, rfl⟩
      · intro hs
        obtain ⟨x, hx, rfl⟩ := List.mem_map.1 hs
        have hl := look_mem (hI.rise d.toNat) hx
        obtain ⟨t, ht, e1, e2⟩ := h.all d x.1 x.2 (by rw [lookS_in hd]; exact hl)
        exact .inr ⟨t, ht, e1, e2⟩
end Idl
end Go.Proofs.Ytmhbphmdfnlmkaa
