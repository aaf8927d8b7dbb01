/-
  The reference's world without a disk, as plain data: tags in the order of their coming. No Go in here.
-/
import Derived.Test.YtmbpckmpnnmnmacGreatIb
import Derived.Test.YtmbpckmpnnmnmacGreatYh
import Derived.Test.YtmbpckmpnnmnmacGreatYv
import Derived.Shelf.GgSortFunc.Small
import Derived.Shelf.GgSortFunc.Tiny
import Derived.Ground.GgsProg
import Derived.Sort.LotA
import Derived.Lib.AppendZerosOnto
import Derived.Maps.AppendAt
namespace Go.Proofs.YtmbpckmpnnmnmacGreat
namespace Idl
structure Tg where
  dir : Int
  name : ByteArray
  file : Nat
/-- where a name stands -/
def tagAt (l : List Tg) (d : Int) (s : ByteArray) : Option Nat := l.findIdx? fun t => t.dir == d && keq t.name s
/-- the tags of a state: each name of each directory once, with its file -/
structure Tags (S : St) (l : List Tg) : Prop where
  dirs : ∀ t ∈ l, isD t.dir = true
  apart : l.Pairwise fun a b => ¬ (a.dir = b.dir ∧ a.name = b.name)
  file : ∀ t ∈ l, lookS S t.dir t.name = some t.file
  all : ∀ d s n, lookS S d s = some n → ∃ t ∈ l, t.dir = d ∧ t.name = s
theorem Tags.empty : Tags St.empty [] := ⟨fun _ h => (by cases h), List.Pairwise.nil, fun _ h => (by cases h), fun d s n h => by
  unfold lookS at h
  split at h
  · cases h
  · cases h⟩
theorem tagAt_none {S : St} {l : List Tg} (h : Tags S l) {d : Int} {s : ByteArray} : tagAt l d s = none ↔ lookS S d s = none := by
  unfold tagAt
  rw [List.findIdx?_eq_none_iff]
  constructor
  · intro h1
    cases e : lookS S d s with
    | none => rfl
    | some n =>
      obtain ⟨t, ht, e1, e2⟩ := h.all d s n e
      have := h1 t ht
      rw [e1, e2, keq_self] at this
      simp at this
  · intro h1 t ht
    by_cases e : t.dir = d ∧ t.name = s
    · have := h.file t ht
      rw [e.1, e.2, h1] at this; cases this
    · simp only [Bool.and_eq_false_iff, beq_eq_false_iff_ne, keq_false]
      by_cases e1 : t.dir = d
      · exact .inr fun e2 => e ⟨e1, e2⟩
      · exact .inl e1
theorem tagAt_some {S : St} {l : List Tg} (h : Tags S l) {d : Int} {s : ByteArray} {i : Nat} (hi : tagAt l d s = some i) : ∃ hl : i < l.length, l[i].dir = d ∧ l[i].name = s ∧ lookS S d s = some l[i].file := by
  unfold tagAt at hi
  rw [List.findIdx?_eq_some_iff_getElem] at hi
  obtain ⟨hl, hp, _⟩ := hi
  simp only [Bool.and_eq_true, beq_iff_eq, keq_iff] at hp
  have := h.file l[i] (List.getElem_mem hl)
  rw [hp.1, hp.2] at this
  exact ⟨hl, hp.1, hp.2, this⟩
/-- a name more -/
theorem Tags.add {S S' : St} {l : List Tg} (h : Tags S l) {d : Int} {s : ByteArray} {n : Nat} (hd : isD d = true) (hn : lookS S d s = none)
    (hS : ∀ e t, lookS S' e t = if e = d ∧ t = s then some n else lookS S e t) : Tags S' (l ++ [⟨d, s, n⟩]) := by
  refine ⟨fun t ht => ?_, ?_, fun t ht => ?_, fun e t k hk => ?_⟩
  · rcases List.mem_append.1 ht with z | z
    · exact h.dirs t z
    · rw [List.mem_singleton] at z; subst z; exact hd
  · rw [List.pairwise_append]
    refine ⟨h.apart, List.pairwise_singleton _ _, fun a ha b hb => ?_⟩
    rw [List.mem_singleton] at hb
    subst hb
    rintro ⟨e1, e2⟩
    have := h.file a ha
    rw [e1, e2] at this
    have hn' : lookS S d s = none := hn
    rw [show lookS S (Tg.dir ⟨d, s, n⟩) (Tg.name ⟨d, s, n⟩) = lookS S d s from rfl, hn'] at this
    cases this
  · rcases List.mem_append.1 ht with z | z
    · rw [hS, if_neg]
      · exact h.file t z
      · rintro ⟨e1, e2⟩
        have := h.file t z
        rw [e1, e2, hn] at this; cases this
    · rw [List.mem_singleton] at z
      subst z
      rw [hS, if_pos ⟨rfl, rfl⟩]
  · rw [hS] at hk
    by_cases e1 : e = d ∧ t = s
    · exact ⟨_, List.mem_append.2 (.inr (List.mem_singleton.2 rfl)), e1.1.symm, e1.2.symm⟩
    · rw [if_neg e1] at hk
      obtain ⟨u, hu, h1, h2⟩ := h.all e t k hk
      exact ⟨u, List.mem_append.2 (.inl hu), h1, h2⟩
/-- a name less -/
theorem Tags.drop {S S' : St} {l : List Tg} (h : Tags S l) {d : Int} {s : ByteArray} {i : Nat} (hi : tagAt l d s = some i)
    (hS : ∀ e t, lookS S' e t = if e = d ∧ t = s then none else lookS S e t) : Tags S' (l.take i ++ l.drop (i + 1)) := by
  obtain ⟨hl, e1, e2, e3⟩ := tagAt_some h hi
  have hsub : (l.take i ++ l.drop (i + 1)).Sublist l := by
    rw [← List.eraseIdx_eq_take_drop_succ]; exact List.eraseIdx_sublist l i
  have hsplit : l = l.take i ++ l[i] :: l.drop (i + 1) := by rw [List.getElem_cons_drop]; simp
  have hap := h.apart
  have hne : ∀ t ∈ l.take i ++ l.drop (i + 1), ¬ (t.dir = d ∧ t.name = s) := fun t ht hc => by
    rw [hsplit] at hap
    rw [List.pairwise_append, List.pairwise_cons] at hap
    obtain ⟨_, ⟨h2, _⟩, h3⟩ := hap
    rcases List.mem_append.1 ht with z | z
    · exact h3 t z l[i] (List.mem_cons_self ..) ⟨by rw [hc.1, e1], by rw [hc.2, e2]⟩
    · exact h2 t z ⟨by rw [hc.1, e1], by rw [hc.2, e2]⟩
  refine ⟨fun t ht => h.dirs t (hsub.subset ht), h.apart.sublist hsub, fun t ht => ?_, fun e t k hk => ?_⟩
  · rw [hS, if_neg (hne t ht)]
    exact h.file t (hsub.subset ht)
  · rw [hS] at hk
    by_cases c : e = d ∧ t = s
    · rw [if_pos c] at hk; cases hk
    · rw [if_neg c] at hk
      obtain ⟨u, hu, h1, h2⟩ := h.all e t k hk
      refine ⟨u, ?_, h1, h2⟩
      rw [hsplit] at hu
      rcases List.mem_append.1 hu with z | z
      · exact List.mem_append.2 (.inl z)
      · rcases List.mem_cons.1 z with z | z
        · exfalso
          rw [z, e1] at h1
          rw [z, e2] at h2
          exact c ⟨h1.symm, h2.symm⟩
        · exact List.mem_append.2 (.inr z)
/-! the list of names: each put to its place -/
def plN (l : List ByteArray) (s : ByteArray) : Nat := (l.takeWhile fun e => lt e s).length
def insN (l : List ByteArray) (s : ByteArray) : List ByteArray := l.take (plN l s) ++ s :: l.drop (plN l s)
def RiseN (l : List ByteArray) : Prop := l.Pairwise fun a b => lt a b = true
def namesOf : List Tg → Int → List ByteArray → List ByteArray
  | [], _, out => out
  | t :: l, d, out => namesOf l d (if t.dir = d then insN out t.name else out)
theorem plN_split (l : List ByteArray) (s : ByteArray) : l.take (plN l s) = l.takeWhile (fun e => lt e s) ∧ l.drop (plN l s) = l.dropWhile (fun e => lt e s) := by
  have h1 : (l.takeWhile (fun e => lt e s) ++ l.dropWhile (fun e => lt e s)).take (l.takeWhile fun e => lt e s).length = l.takeWhile (fun e => lt e s) := List.take_left
  have h2 : (l.takeWhile (fun e => lt e s) ++ l.dropWhile (fun e => lt e s)).drop (l.takeWhile fun e => lt e s).length = l.dropWhile (fun e => lt e s) := List.drop_left
  rw [List.takeWhile_append_dropWhile] at h1 h2
  exact ⟨h1, h2⟩
theorem mem_insN {l : List ByteArray} {s t : ByteArray} : t ∈ insN l s ↔ t = s ∨ t ∈ l := by
  unfold insN
  rw [List.mem_append, List.mem_cons]
  have h : t ∈ l ↔ t ∈ l.take (plN l s) ∨ t ∈ l.drop (plN l s) := by
    conv => lhs; rw [← List.take_append_drop (plN l s) l]
    exact List.mem_append
  rw [h]
  constructor
  · rintro (z | z | z)
    · exact .inr (.inl z)
    · exact .inl z
    · exact .inr (.inr z)
  · rintro (z | z | z)
    · exact .inr (.inl z)
    · exact .inl z
    · exact .inr (.inr z)
theorem insN_rise {l : List ByteArray} (h : RiseN l) {s : ByteArray} (hs : s ∉ l) : RiseN (insN l s) := by
  unfold insN
  obtain ⟨e1, e2⟩ := plN_split l s
  rw [e1, e2]
  have hw : RiseN (l.takeWhile (fun e => lt e s) ++ l.dropWhile (fun e => lt e s)) := by rw [List.takeWhile_append_dropWhile]; exact h
  unfold RiseN at hw ⊢
  rw [List.pairwise_append] at hw
  obtain ⟨h1, h2, h3⟩ := hw
  have low : ∀ a ∈ l.takeWhile (fun e => lt e s), lt a s = true := fun a ha => by
    have := List.all_takeWhile (p := fun e => lt e s) (l := l)
    rw [List.all_eq_true] at this
    exact this a ha
  have high : ∀ b ∈ l.dropWhile (fun e => lt e s), lt s b = true := by
    cases hd : l.dropWhile (fun e => lt e s) with
    | nil => intro b hb; cases hb
    | cons a r =>
      rw [hd] at h2
      rw [List.pairwise_cons] at h2
      have hmem : a ∈ l := (List.dropWhile_sublist (p := fun e => lt e s) (l := l)).subset (by rw [hd]; exact List.mem_cons_self ..)
      have ha : lt a s = false := by
        have := List.head?_dropWhile_not (fun e => lt e s) l
        rw [hd] at this
        simpa using this
      have hsa : lt s a = true := by
        cases e : lt s a
        · exact absurd (lt_tri ha e ▸ hmem) hs
        · rfl
      intro b hb
      rcases List.mem_cons.1 hb with rfl | hb
      · exact hsa
      · exact lt_trans hsa (h2.1 b hb)
  rw [List.pairwise_append, List.pairwise_cons]
  refine ⟨h1, ⟨high, h2⟩, fun a ha b hb => ?_⟩
  rcases List.mem_cons.1 hb with rfl | hb
  · exact low a ha
  · exact lt_trans (low a ha) (high b hb)
theorem riseN_ext : ∀ {l k : List ByteArray}, RiseN l → RiseN k → (∀ s, s ∈ l ↔ s ∈ k) → l = k
  | [], [], _, _, _ => rfl
  | [], b :: k, _, _, h => by have := (h b).2 (List.mem_cons_self ..); cases this
  | a :: l, [], _, _, h => by have := (h a).1 (List.mem_cons_self ..); cases this
  | a :: l, b :: k, hl, hk, h => by
    unfold RiseN at hl hk
    rw [List.pairwise_cons] at hl hk
    have hab : a = b := by
      rcases List.mem_cons.1 ((h a).1 (List.mem_cons_self ..)) with e | e
      · exact e
      · rcases List.mem_cons.1 ((h b).2 (List.mem_cons_self ..)) with e' | e'
        · exact e'.symm
        · have h1 := hk.1 a e
          have h2 := hl.1 b e'
          rw [lt_asymm h1] at h2; cases h2
    subst hab
    congr 1
    refine riseN_ext hl.2 hk.2 fun s => ⟨fun hs => ?_, fun hs => ?_⟩
    · rcases List.mem_cons.1 ((h s).1 (List.mem_cons_of_mem _ hs)) with e | e
      · subst e
        have := hl.1 s hs
        rw [lt_irrefl] at this; cases this
      · exact e
    · rcases List.mem_cons.1 ((h s).2 (List.mem_cons_of_mem _ hs)) with e | e
      · subst e
        have := hk.1 s hs
        rw [lt_irrefl] at this; cases this
      · exact e
theorem namesOf_ok : ∀ (l : List Tg) (d : Int) (out : List ByteArray), RiseN out → (l.Pairwise fun a b => ¬ (a.dir = b.dir ∧ a.name = b.name)) → (∀ t ∈ l, t.dir = d → t.name ∉ out) →
    RiseN (namesOf l d out) ∧ ∀ s, s ∈ namesOf l d out ↔ s ∈ out ∨ ∃ t ∈ l, t.dir = d ∧ t.name = s
  | [], d, out, h, _, _ => ⟨h, fun s => ⟨fun z => .inl z, fun z => by
      rcases z with z | ⟨t, ht, _⟩
      · exact z
      · cases ht⟩⟩
  | t :: l, d, out, h, hp, hn => by
    rw [List.pairwise_cons] at hp
    unfold namesOf
    by_cases e : t.dir = d
    · rw [if_pos e]
      obtain ⟨h1, h2⟩ := namesOf_ok l d (insN out t.name) (insN_rise h (hn t (List.mem_cons_self ..) e)) hp.2 (fun u hu hud => by
        rw [mem_insN]
        rintro (z | z)
        · exact hp.1 u hu ⟨by rw [e, hud], z.symm⟩
        · exact hn u (List.mem_cons_of_mem _ hu) hud z)
      refine ⟨h1, fun s => ?_⟩
      rw [h2, mem_insN]
      constructor
      · rintro ((z | z) | ⟨u, hu, a, b⟩)
        · exact .inr ⟨t, List.mem_cons_self .., e, z.symm⟩
        · exact .inl z
        · exact .inr ⟨u, List.mem_cons_of_mem _ hu, a, b⟩
      · rintro (z | ⟨u, hu, a, b⟩)
        · exact .inl (.inr z)
        · rcases List.mem_cons.1 hu with rfl | hu
          · exact .inl (.inl b.symm)
          · exact .inr ⟨u, hu, a, b⟩
    · rw [if_neg e]
      obtain ⟨h1, h2⟩ := namesOf_ok l d out h hp.2 (fun u hu => hn u (List.mem_cons_of_mem _ hu))
      refine ⟨h1, fun s => ?_⟩
      rw [h2]
      constructor
      · rintro (z | ⟨u, hu, a, b⟩)
        · exact .inl z
        · exact .inr ⟨u, List.mem_cons_of_mem _ hu, a, b⟩
      · rintro (z | ⟨u, hu, a, b⟩)
        · exact .inl z
        · rcases List.mem_cons.1 hu with rfl | hu
          · exact absurd a e
          · exact .inr ⟨u, hu, a, b⟩
/-- the reference's list of a directory's names is the world's -/
theorem names_same {S : St} {l : List Tg} (h : Tags S l) (hI : Inv S) (d : Int) : namesOf l d [] = names S d := by
  obtain ⟨h1, h2⟩ := namesOf_ok l d [] List.Pairwise.nil h.apart (fun _ _ _ hz => by cases hz)
  cases hd : isD d
  · have e : names S d = [] := by unfold names; rw [hd]; rfl
    rw [e]
    cases hn : namesOf l d [] with
    | nil => rfl
    | cons a r =>
      exfalso
      have := (h2 a).1 (by rw [hn]; exact List.mem_cons_self ..)
      rcases this with z | ⟨t, ht, e1, _⟩
      · cases z
      · have := h.dirs t ht
        rw [e1, hd] at this; cases this
  · have e : names S d = (S.dir d.toNat).map (·.1) := by unfold names; rw [hd]; rfl
    rw [e]
    refine riseN_ext h1 ?_ fun s => ?_
    · unfold RiseN
      rw [List.pairwise_map]
      exact hI.rise d.toNat
    · rw [h2]
      constructor
      · rintro (z | ⟨t, ht, e1, e2⟩)
        · cases z
        · have := h.file t ht
          rw [e1, e2, lookS_in hd] at this
          exact List.mem_map.2 ⟨_, look_some this, rfl⟩
      · intro hs
        obtain ⟨x, hx, rfl⟩ := List.mem_map.1 hs
        have hl := look_mem (hI.rise d.toNat) hx
        obtain ⟨t, ht, e1, e2⟩ := h.all d x.1 x.2 (by rw [lookS_in hd]; exact hl)
        exact .inr ⟨t, ht, e1, e2⟩
end Idl
end Go.Proofs.YtmbpckmpnnmnmacGreat
namespace Go.Proofs.YtmbpckmpnnmnmacGreat
open Go.RowKit
open Idl (Stp chk stpA strs)
namespace Img
/-- the names of a directory's first n slots -/
def rawN (m : Img) (d : Nat) : Nat → List ByteArray
  | 0 => []
  | n + 1 => rawN m d n ++ (if m.named d n then [m.name d n] else [])
theorem rawN_len (m : Img) (d : Nat) : ∀ n, (rawN m d n).length ≤ n
  | 0 => Nat.le_refl _
  | n + 1 => by
    have := rawN_len m d n
    unfold rawN
    rw [List.length_append]
    split <;> simp <;> omega
theorem rawN_mem {m : Img} {d : Nat} {s : ByteArray} : ∀ {n}, s ∈ rawN m d n ↔ ∃ t, t < n ∧ m.named d t = true ∧ m.name d t = s
  | 0 => by simp [rawN]
  | n + 1 => by
    unfold rawN
    rw [List.mem_append, rawN_mem (n := n)]
    constructor
    · rintro (⟨t, h1, h2, h3⟩ | h)
      · exact ⟨t, by omega, h2, h3⟩
      · by_cases hn : m.named d n = true
        · rw [if_pos hn, List.mem_singleton] at h
          exact ⟨n, by omega, hn, h.symm⟩
        · rw [if_neg hn] at h; cases h
    · rintro ⟨t, h1, h2, h3⟩
      by_cases e : t = n
      · subst e; right; rw [if_pos h2, List.mem_singleton]; exact h3.symm
      · left; exact ⟨t, by omega, h2, h3⟩
theorem rawN_nodup {m : Img} (hm : m.check = 0) {d : Nat} (hd : d < 3) : ∀ {n}, n ≤ 4 → (rawN m d n).Nodup
  | 0, _ => by simp [rawN]
  | n + 1, h => by
    unfold rawN
    rw [List.nodup_append]
    refine ⟨rawN_nodup hm hd (by omega), ?_, fun a ha b hb => ?_⟩
    · split <;> simp
    · by_cases hn : m.named d n = true
      · rw [if_pos hn, List.mem_singleton] at hb
        subst hb
        obtain ⟨t, h1, h2, h3⟩ := rawN_mem.1 ha
        intro e
        exact names_apart hm hd (s := n) (t := t) (by omega) (by omega) (by omega) hn (by rw [h3, e])
      · rw [if_neg hn] at hb; cases hb
end Img
theorem wpList_val {P : Program} {ops : Array Oper} {rest : List Oper} {o : Oper} {a : Act} {w : World} {Q : Exit → Act → World → Prop} {v : Value} (hgd : o.guard = none) (hr : (execOp a.eval o).run P w = .ok (.value v) w)
    (h : wpList P ops Q rest (a.put o.dst v) w) : wpList P ops Q (o :: rest) a w :=
  wpList_plain hgd fun _ hK => by
    unfold Oper.wp
    rw [hr]
    exact hK _ _ h
set_option maxHeartbeats 1000000 in
/-- the closure that is handed to the sort: it reads the boxed slice and two of the row's cells -/
theorem less_strs (blk off c Bs size : Nat) (W : World) (G : Nat → ByteArray) (hs : W.cell? ⟨Bs, 0, none⟩ = some (.slice (some ⟨blk, off, none⟩) size c)) (hc : ∀ t, t < size → W.cell? ⟨blk, off + t, none⟩ = some (.string (G t))) (i j : Nat) (hi : i < size) (hj : j < size) :
    Calls Tryz.prog 46 #[.int .i64 i, .int .i64 j, .pointer (some ⟨Bs, 0, none⟩)] W fun e w' => e = .returned (.bool (Idl.lt (G i) (G j))) ∧ ∃ q, w' = W.drewN q := by
  have ci := hc i hi
  have cj := hc j hj
  have iz : (i : Int) < (size : Int) := by omega
  have jz : (j : Int) < (size : Int) := by omega
  generalize G i = gi at ci ⊢
  generalize G j = gj at cj ⊢
  clear hc
  go_enter Tryz.func46, Tryz.ntmps46
  go_wp2
  try (go_quiet (fail); go_wp2)
  go_ret
  exact ⟨rfl, by first | exact ⟨0, rfl⟩ | exact ⟨_, rfl⟩⟩
end Go.Proofs.YtmbpckmpnnmnmacGreat
namespace Go.Proofs
open Go.Shelf
def Tryz.sa6_ren : Go.Shelf.Ren := ⟨fun | 6 => 45 | 10 => 78 | 11 => 79 | 12 => 80 | 13 => 81 | 14 => 82 | 24 => 115 | 25 => 116 | 26 => 117 | 27 => 118 | 28 => 119 | 29 => 120 | 30 => 121 | 31 => 122 | 32 => 123 | 33 => 124 | 34 => 134 | 35 => 135 | 36 => 136 | 37 => 137 | 38 => 138 | 39 => 145 | n => n, fun | 20 => 20 | 26 => 82 | 35 => 114 | 0 => 0 | 37 => 116 | 3 => 3 | 41 => 119 | 44 => 122 | 49 => 135 | 51 => 137 | 4 => 4 | 54 => 140 | 53 => 139 | 58 => 144 | 5 => 5 | 9 => 9 | 60 => 148 | 64 => 152 | 66 => 157 | 67 => 158 | 17 => 17 | 32 => 111 | 33 => 112 | 82 => 174 | 12 => 12 | 75 => 167 | 76 => 168 | 77 => 169 | 78 => 170 | 79 => 171 | 80 => 172 | n => n, fun | n => n⟩
theorem Tryz.sa6 : Go.Proofs.LaysGg.n6 Tryz.prog Tryz.sa6_ren := {
  mixed := by kernel_rfl
  f6 := Tryz.func45.trans (congrArg some (by kernel_rfl))
  f10 := Tryz.func78.trans (congrArg some (by kernel_rfl))
  f11 := Tryz.func79.trans (congrArg some (by kernel_rfl))
  f12 := Tryz.func80.trans (congrArg some (by kernel_rfl))
  f13 := Tryz.func81.trans (congrArg some (by kernel_rfl))
  f14 := Tryz.func82.trans (congrArg some (by kernel_rfl))
  f24 := Tryz.func115.trans (congrArg some (by kernel_rfl))
  f25 := Tryz.func116.trans (congrArg some (by kernel_rfl))
  f26 := Tryz.func117.trans (congrArg some (by kernel_rfl))
  f27 := Tryz.func118.trans (congrArg some (by kernel_rfl))
  f28 := Tryz.func119.trans (congrArg some (by kernel_rfl))
  f29 := Tryz.func120.trans (congrArg some (by kernel_rfl))
  f30 := Tryz.func121.trans (congrArg some (by kernel_rfl))
  f31 := Tryz.func122.trans (congrArg some (by kernel_rfl))
  f32 := Tryz.func123.trans (congrArg some (by kernel_rfl))
  f33 := Tryz.func124.trans (congrArg some (by kernel_rfl))
  f34 := Tryz.func134.trans (congrArg some (by kernel_rfl))
  f35 := Tryz.func135.trans (congrArg some (by kernel_rfl))
  f36 := Tryz.func136.trans (congrArg some (by kernel_rfl))
  f37 := Tryz.func137.trans (congrArg some (by kernel_rfl))
  f38 := Tryz.func138.trans (congrArg some (by kernel_rfl))
  f39 := Tryz.func145.trans (congrArg some (by kernel_rfl))
  t0 := Tryz.underlying0
  a0 := Tryz.isAgg0
  z0 := Tryz.sizeOf0
  v0 := Tryz.zeroValue0
  i0 := by kernel_rfl
  t3 := Tryz.underlying3
  a3 := Tryz.isAgg3
  z3 := Tryz.sizeOf3
  v3 := Tryz.zeroValue3
  i3 := by kernel_rfl
  t4 := Tryz.underlying4
  a4 := Tryz.isAgg4
  z4 := Tryz.sizeOf4
  v4 := Tryz.zeroValue4
  i4 := by kernel_rfl
  t5 := Tryz.underlying5
  a5 := Tryz.isAgg5
  z5 := Tryz.sizeOf5
  v5 := Tryz.zeroValue5
  i5 := by kernel_rfl
  t9 := Tryz.underlying9
  a9 := Tryz.isAgg9
  z9 := Tryz.sizeOf9
  v9 := Tryz.zeroValue9
  i9 := by kernel_rfl
  t12 := Tryz.underlying12
  a12 := Tryz.isAgg12
  z12 := Tryz.sizeOf12
  v12 := Tryz.zeroValue12
  i12 := by kernel_rfl
  t17 := Tryz.underlying17
  a17 := Tryz.isAgg17
  z17 := Tryz.sizeOf17
  v17 := Tryz.zeroValue17
  i17 := by kernel_rfl
  t20 := Tryz.underlying20
  a20 := Tryz.isAgg20
  z20 := Tryz.sizeOf20
  v20 := Tryz.zeroValue20
  i20 := by kernel_rfl
  t26 := Tryz.underlying82
  a26 := Tryz.isAgg82
  z26 := Tryz.sizeOf82
  v26 := Tryz.zeroValue82
  i26 := by kernel_rfl
  t32 := Tryz.underlying111
  a32 := Tryz.isAgg111
  z32 := Tryz.sizeOf111
  v32 := Tryz.zeroValue111
  i32 := by kernel_rfl
  t33 := Tryz.underlying112
  a33 := Tryz.isAgg112
  z33 := Tryz.sizeOf112
  v33 := Tryz.zeroValue112
  i33 := by kernel_rfl
  t35 := Tryz.underlying114
  a35 := Tryz.isAgg114
  z35 := Tryz.sizeOf114
  v35 := Tryz.zeroValue114
  i35 := by kernel_rfl
  t37 := Tryz.underlying116
  a37 := Tryz.isAgg116
  z37 := Tryz.sizeOf116
  v37 := Tryz.zeroValue116
  i37 := by kernel_rfl
  t41 := Tryz.underlying119
  a41 := Tryz.isAgg119
  z41 := Tryz.sizeOf119
  v41 := Tryz.zeroValue119
  i41 := by kernel_rfl
  t44 := Tryz.underlying122
  a44 := Tryz.isAgg122
  z44 := Tryz.sizeOf122
  v44 := Tryz.zeroValue122
  i44 := by kernel_rfl
  t49 := Tryz.underlying135
  a49 := Tryz.isAgg135
  z49 := Tryz.sizeOf135
  v49 := Tryz.zeroValue135
  i49 := by kernel_rfl
  t51 := Tryz.underlying137
  a51 := Tryz.isAgg137
  z51 := Tryz.sizeOf137
  v51 := Tryz.zeroValue137
  i51 := by kernel_rfl
  t53 := Tryz.underlying139
  a53 := Tryz.isAgg139
  z53 := Tryz.sizeOf139
  v53 := Tryz.zeroValue139
  i53 := by kernel_rfl
  t54 := Tryz.underlying140
  a54 := Tryz.isAgg140
  z54 := Tryz.sizeOf140
  v54 := Tryz.zeroValue140
  i54 := by kernel_rfl
  t58 := Tryz.underlying144
  a58 := Tryz.isAgg144
  z58 := Tryz.sizeOf144
  v58 := Tryz.zeroValue144
  i58 := by kernel_rfl
  t60 := Tryz.underlying148
  a60 := Tryz.isAgg148
  z60 := Tryz.sizeOf148
  v60 := Tryz.zeroValue148
  i60 := by kernel_rfl
  t64 := Tryz.underlying152
  a64 := Tryz.isAgg152
  z64 := Tryz.sizeOf152
  v64 := Tryz.zeroValue152
  i64 := by kernel_rfl
  t66 := Tryz.underlying157
  a66 := Tryz.isAgg157
  z66 := Tryz.sizeOf157
  v66 := Tryz.zeroValue157
  i66 := by kernel_rfl
  t67 := Tryz.underlying158
  a67 := Tryz.isAgg158
  z67 := Tryz.sizeOf158
  v67 := Tryz.zeroValue158
  i67 := by kernel_rfl
  t75 := Tryz.underlying167
  a75 := Tryz.isAgg167
  z75 := Tryz.sizeOf167
  v75 := Tryz.zeroValue167
  i75 := by kernel_rfl
  t76 := Tryz.underlying168
  a76 := Tryz.isAgg168
  z76 := Tryz.sizeOf168
  v76 := Tryz.zeroValue168
  i76 := by kernel_rfl
  t77 := Tryz.underlying169
  a77 := Tryz.isAgg169
  z77 := Tryz.sizeOf169
  v77 := Tryz.zeroValue169
  i77 := by kernel_rfl
  t78 := Tryz.underlying170
  a78 := Tryz.isAgg170
  z78 := Tryz.sizeOf170
  v78 := Tryz.zeroValue170
  i78 := by kernel_rfl
  t79 := Tryz.underlying171
  a79 := Tryz.isAgg171
  z79 := Tryz.sizeOf171
  v79 := Tryz.zeroValue171
  i79 := by kernel_rfl
  t80 := Tryz.underlying172
  a80 := Tryz.isAgg172
  z80 := Tryz.sizeOf172
  v80 := Tryz.zeroValue172
  i80 := by kernel_rfl
  t82 := Tryz.underlying174
  a82 := Tryz.isAgg174
  z82 := Tryz.sizeOf174
  v82 := Tryz.zeroValue174
  i82 := by kernel_rfl }
end Go.Proofs
namespace Go.Proofs.YtmbpckmpnnmnmacGreat
open Go.RowKit Go.Shelf Go.Lib Go.Sort
open Idl (strs RiseN insN mem_insN insN_rise riseN_ext)
/-- names, each put to its place -/
def sortN (l : List ByteArray) : List ByteArray := l.foldl insN []
theorem foldN : ∀ (l out : List ByteArray), RiseN out → l.Nodup → (∀ s ∈ l, s ∉ out) → RiseN (l.foldl insN out) ∧ ∀ s, s ∈ l.foldl insN out ↔ s ∈ out ∨ s ∈ l
  | [], out, h, _, _ => ⟨h, fun s => by simp⟩
  | a :: l, out, h, hn, ho => by
    rw [List.nodup_cons] at hn
    obtain ⟨h1, h2⟩ := foldN l (insN out a) (insN_rise h (ho a (List.mem_cons_self ..))) hn.2 (fun s hs => by
      rw [mem_insN]
      rintro (z | z)
      · exact hn.1 (z ▸ hs)
      · exact ho s (List.mem_cons_of_mem _ hs) z)
    refine ⟨h1, fun s => ?_⟩
    rw [List.foldl_cons, h2, mem_insN, List.mem_cons]
    constructor
    · rintro ((z | z) | z)
      · exact .inr (.inl z)
      · exact .inl z
      · exact .inr (.inr z)
    · rintro (z | z | z)
      · exact .inl (.inr z)
      · exact .inl (.inl z)
      · exact .inr z
theorem sortN_rise {l : List ByteArray} (h : l.Nodup) : RiseN (sortN l) := (foldN l [] List.Pairwise.nil h (fun _ _ z => by cases z)).1
theorem sortN_mem {l : List ByteArray} (h : l.Nodup) (s : ByteArray) : s ∈ sortN l ↔ s ∈ l := by
  have := (foldN l [] List.Pairwise.nil h (fun _ _ z => by cases z)).2 s
  unfold sortN
  rw [this]; simp
theorem sortN_short {l : List ByteArray} (h : l.length ≤ 1) : sortN l = l := by
  match l, h with
  | [], _ => rfl
  | [x], _ => rfl
  | x :: y :: r, h => simp at h
theorem swo_lt : SWO Idl.lt where
  irrefl := Idl.lt_irrefl
  trans := fun _ _ _ => Idl.lt_trans
  ntrans := fun x y z h1 h2 => by
    cases e : Idl.lt x z
    · rfl
    · exfalso
      cases e1 : Idl.lt y x
      · have := Idl.lt_tri h1 e1
        rw [this] at e; rw [e] at h2; cases h2
      · rw [Idl.lt_trans e1 e] at h2; cases h2
/-- the one sorted permutation -/
theorem sorted_eq {l : List ByteArray} (hn : l.Nodup) {d' : Array ByteArray} (hp : PermIn 0 l.toArray.size l.toArray d') (hs : SortedIn Idl.lt 0 l.toArray.size d') : d'.toList = sortN l ∧ d'.size = l.length := by
  obtain ⟨hz, _, hpm⟩ := hp
  have hz' : d'.size = l.length := by simpa using hz
  have e1 : (d'.extract 0 l.toArray.size).toList = d'.toList := by rw [← hz]; simp
  have e2 : (l.toArray.extract 0 l.toArray.size).toList = l := by simp
  rw [e1, e2] at hpm
  have hnd : d'.toList.Nodup := hpm.nodup_iff.2 hn
  refine ⟨riseN_ext ?_ (sortN_rise hn) (fun s => by rw [sortN_mem hn]; exact hpm.mem_iff), hz'⟩
  unfold RiseN
  rw [List.pairwise_iff_getElem]
  intro i j hi hj hij
  have h1 := hs i j (Nat.zero_le _) hij (by simpa [hz'] using hj)
  have gi : d'[i]! = d'.toList[i] := by rw [getElem!_pos d' i (by simpa using hi)]; simp
  have gj : d'[j]! = d'.toList[j] := by rw [getElem!_pos d' j (by simpa using hj)]; simp
  rw [gi, gj] at h1
  cases e : Idl.lt d'.toList[i] d'.toList[j]
  · exfalso
    have := Idl.lt_tri e h1
    have h7 := List.pairwise_iff_getElem.1 hnd i j hi hj hij
    exact h7 this
  · rfl
theorem siK (E : TypeInfo) (a : E.hasPointers = true) (b : E.bytes = 16) (n : Nat) (h2 : 2 ≤ n) : Lib.swapperK n E 24 = 4 := by
  have c : (n == 0) = false := by simp; omega
  have d : (n == 1) = false := by simp; omega
  simp [Lib.swapperK, a, b, c, d]
theorem siK1 (E : TypeInfo) (n : Nat) (h1 : n ≤ 1) : Lib.swapperK n E 24 = n + 1 := by
  rcases Nat.eq_zero_or_pos n with h | h
  · subst h; simp [Lib.swapperK]
  · obtain rfl : n = 1 := by omega
    simp [Lib.swapperK]
theorem grow_grown (W : World) (os : Array Obj) (row : Option Nat) : W.grownBy (grow W os) row :=
  ⟨rfl, rfl, rfl, by simp [grow], fun k hk _ => by show (W.heap ++ os)[k]? = _; rw [Array.getElem?_append_left hk]⟩
set_option maxHeartbeats 2000000 in
theorem sorts_any (l : List ByteArray) (hn : l.Nodup) (hl : l.length ≤ 12) {W : World} {base Bs : Nat} {v : Value} (ho : W.ownsRow base 9 1 v l.length (strs l)) (hB : W.heap[Bs]? = some (.cells #[v] 61)) (hne : v.ownBlock ≠ some Bs) :
    Calls Tryz.prog 45 #[.iface 61 v, .func (.func 46) #[] #[.pointer (some ⟨Bs, 0, none⟩)]] W fun e w' => e = .returned (.tuple #[]) ∧ w'.ownsRow base 9 1 v l.length (strs (sortN l)) ∧ W.grownBy w' v.ownBlock := by
  by_cases h2 : 2 ≤ l.length
  · rcases ho.2 with ⟨_, e0⟩ | ⟨g, cap, cur, rfl, hb, hg, hc1, hc2, hc3, hc4⟩
    · omega
    · have hgl : g < W.heap.size := (Array.getElem?_eq_some_iff.1 hg).1
      have hBl : Bs < W.heap.size := (Array.getElem?_eq_some_iff.1 hB).1
      have hgB : g ≠ Bs := fun e => hne (by rw [e]; rfl)
      have hsz : l.toArray.size = l.length := by simp
      have hcell : ∀ j, j < l.length → cur[j]? = some (.string l.toArray[j]!) := fun j hj => by
        have h1 : (strs l)[j]? = some (.string l[j]) := by simp [strs, hj]
        rw [← hc4, List.getElem?_take, if_pos (by omega)] at h1
        have h3 : l.toArray[j]! = l[j] := by rw [getElem!_pos l.toArray j (by simpa using hj)]; simp
        rw [h3]; simpa using h1
      have hH : Holds Value.string W g 0 l.toArray := fun j hj => by
        rw [hsz] at hj
        refine ⟨?_, frozen_of_row W g _ _ _ hg⟩
        rw [Nat.zero_add, cell_of_row W g j _ _ _ hg]
        exact hcell j hj
      have hless : LessReads Tryz.prog 46 #[.pointer (some ⟨Bs, 0, none⟩)] Value.string Idl.lt g 0 l.toArray.size W := by
        intro m os dk hs i j hi hj
        have e : sortWorld Value.string W g 0 m dk os = putRow Value.string (grow (Sort.ahead W m) os) g 0 dk := by
          unfold sortWorld; rw [putRow_grow _ (Sort.ahead W m) _ g 0 _ hgl]
        have hHg : Holds Value.string (grow (Sort.ahead W m) os) g 0 l.toArray := holds_grow _ _ _ g 0 _ hgl (holds_ahead _ _ _ _ _ _ hH)
        refine less_strs g 0 cap Bs l.toArray.size _ (fun t => dk[t]!) ?_ (fun t ht => ?_) i j hi hj
        · rw [e, cell?_putRow_other _ _ g 0 dk _ (Or.inl (Ne.symm hgB)), cell?_grow _ _ _ hBl, cell?_ahead, cell_of_row W Bs 0 _ _ _ hB, hsz]; rfl
        · rw [e]; exact cell?_putRow _ _ g 0 _ dk hHg hs t (by omega)
      have hS := Any.sort_Slice_small_sorted Tryz.sa6 61 9 ((Tryz.prog.info? 61).get (by kernel_rfl)) ((Tryz.prog.info? 9).get (by kernel_rfl)) (by kernel_rfl) (by kernel_rfl) (by kernel_rfl) (by kernel_rfl) 24 (fun _ => by kernel_rfl) (by kernel_rfl) (fun _ => by kernel_rfl) Value.string (fun _ => rfl) Idl.lt swo_lt 46 _
        (enters_of Tryz.func46 (by kernel_rfl) rfl) g 0 cap l.toArray (by rw [hsz]; exact h2) (by rw [hsz]; exact hl) 109 (by rw [siK _ (by kernel_rfl) (by kernel_rfl) _ (by rw [hsz]; exact h2)]; kernel_rfl) true
        (fun args W => run_callFunc_extern Tryz.func109 (by kernel_rfl) (by kernel_rfl) (by kernel_rfl) (e := Extern.ReflectliteSwapper.swap true) (by kernel_rfl) args W) _ hless hH hgl
      rw [hsz] at hS
      change Calls Tryz.prog 45 _ _ _ at hS
      refine hS.mono ?_
      rintro e w' ⟨rfl, d', n, os, hp, hso, rfl⟩
      rw [← hsz] at hp hso
      obtain ⟨hd1, hd2⟩ := sorted_eq hn hp hso
      have hbk : (putRow Value.string (Sort.ahead W n) g 0 d').heap[g]? = some (.cells (putCells Value.string 0 d' cur) 9 (0, 0)) := by
        unfold putRow mapBlock
        show (W.heap.modify g _)[g]? = _
        rw [Array.getElem?_modify, if_pos rfl, hg]; rfl
      have hoth : ∀ k, k ≠ g → (putRow Value.string (Sort.ahead W n) g 0 d').heap[k]? = W.heap[k]? := fun k hk => by
        unfold putRow mapBlock
        show (W.heap.modify g _)[k]? = _
        rw [Array.getElem?_modify, if_neg (Ne.symm hk)]
      have hsz2 : (putRow Value.string (Sort.ahead W n) g 0 d').heap.size = W.heap.size := by unfold putRow mapBlock; show (W.heap.modify g _).size = _; simp
      refine ⟨rfl, ⟨by simp [strs, ← hd1, hd2], .inr ⟨g, cap, putCells Value.string 0 d' cur, rfl, hb, ?_, hc1, hc2, by unfold putCells; simpa using hc3, ?_⟩⟩, ⟨rfl, rfl, rfl, by simp [grow, hsz2], fun k hk hkn => ?_⟩⟩
      · show ((putRow Value.string (Sort.ahead W n) g 0 d').heap ++ os)[g]? = _
        rw [Array.getElem?_append_left (by rw [hsz2]; exact hgl)]; exact hbk
      · rw [← hd1]
        apply List.ext_getElem?
        intro j
        rw [List.getElem?_take]
        unfold putCells
        by_cases hj : j < l.length * 1
        · have hjc : j < cur.size := by omega
          rw [if_pos hj, Array.getElem?_toList, Array.getElem?_mapIdx, Array.getElem?_eq_getElem hjc]
          simp only [Option.map_some, Nat.zero_le, Nat.zero_add, true_and, Nat.sub_zero]
          rw [if_pos (by omega)]
          have h3 : d'[j]! = d'.toList[j]'(by simp; omega) := by rw [getElem!_pos d' j (by omega)]; simp
          rw [h3]
          simp [strs, show j < d'.size by omega]
        · rw [if_neg hj, List.getElem?_eq_none (by simp [strs]; omega)]
      · show ((putRow Value.string (Sort.ahead W n) g 0 d').heap ++ os)[k]? = _
        rw [Array.getElem?_append_left (by rw [hsz2]; exact hk)]
        exact hoth k (fun e => hkn (by rw [e]; rfl))
  · have h1 : l.length ≤ 1 := by omega
    have hv : ∃ p c, v = .slice p l.length c := by
      rcases ho.2 with ⟨z, e0⟩ | ⟨g, cap, cur, z, _⟩
      · exact ⟨none, 0, by rw [z, e0]⟩
      · exact ⟨_, cap, z⟩
    obtain ⟨p, c, rfl⟩ := hv
    have hS := Any.sort_Slice_tiny Tryz.sa6 61 9 ((Tryz.prog.info? 61).get (by kernel_rfl)) ((Tryz.prog.info? 9).get (by kernel_rfl)) (by kernel_rfl) (by kernel_rfl) (by kernel_rfl) (by kernel_rfl) 24 (fun _ => by kernel_rfl) p l.length c h1 (106 + l.length) (by
      rw [siK1 _ _ h1]
      rcases Nat.eq_zero_or_pos l.length with h | h
      · rw [h]; kernel_rfl
      · rw [show l.length = 1 by omega]; kernel_rfl) (.func 46) #[] #[.pointer (some ⟨Bs, 0, none⟩)] W
    change Calls Tryz.prog 45 _ _ _ at hS
    refine hS.mono ?_
    rintro e w' ⟨rfl, os, rfl⟩
    rw [sortN_short h1]
    have hg := grow_grown W os (Value.slice p l.length c).ownBlock
    exact ⟨rfl, Idl.ownsRow_of_block ho (fun k hk => by show (W.heap ++ os)[k]? = _; rw [Array.getElem?_append_left (ho.lt k hk).2]), hg⟩
end Go.Proofs.YtmbpckmpnnmnmacGreat
namespace Go.Proofs.YtmbpckmpnnmnmacGreat
open Go.RowKit
open Idl (Stp chk stpA strs)
def Img.snames (m : Img) (d : Int) : List ByteArray := if 0 ≤ d ∧ d < 3 then sortN (Img.rawN m d.toNat 4) else []
theorem sortN_len {l : List ByteArray} (h : l.Nodup) : (sortN l).length = l.length := by
  have h1 : (sortN l).Nodup := (sortN_rise h).imp (fun {a b} z e => by rw [e, Idl.lt_irrefl] at z; cases z)
  exact ((List.perm_ext_iff_of_nodup h1 h).2 (sortN_mem h)).length_eq
theorem own_form1 {W : World} {base : Nat} {e : TypeId} {size : Nat} {v : Value} {n : Nat} {xs : List Value} (h : W.ownsRow base e size v n xs) : ∃ a cap, v = .slice a n cap ∧ n ≤ cap := by
  rcases h.2 with ⟨rfl, rfl⟩ | ⟨g, cap, cur, rfl, _, _, hm, _⟩
  · exact ⟨_, _, rfl, Nat.le_refl _⟩
  · exact ⟨_, _, rfl, hm⟩
/-- the names so far: a row of one's own, and the box that holds it -/
structure Nms (w : World) (bx : Nat) (v : Value) (l : List ByteArray) (W : World) : Prop where
  row : W.ownsRow w.heap.size 9 1 v l.length (strs l)
  box : W.heap[bx]? = some (.cells #[v] 61)
  ne : v.ownBlock ≠ some bx
  bel : Below w.heap.size w W
  lo : w.heap.size ≤ bx
section
variable {w W W' : World} {bx : Nat} {v : Value} {l : List ByteArray}
theorem Nms.call (h : Nms w bx v l W) (hb : Below W.heap.size W W') : Nms w bx v l W' :=
  ⟨Idl.ownsRow_of_block h.row (fun q hq => hb.block q (h.row.lt q hq).2), by rw [hb.block _ (Array.getElem?_eq_some_iff.1 h.box).1]; exact h.box, h.ne, h.bel.trans (hb.mono h.bel.size), h.lo⟩
theorem Nms.more (h : Nms w bx v l W) {v' : Value} {nm : ByteArray} (ho : W'.ownsRow w.heap.size 9 1 v' (l.length + 1) (strs l ++ [.string nm])) (hg : W.grownBy W' v.ownBlock) (ha : v'.ownBlock = v.ownBlock ∨ v'.ownBlock = some W.heap.size) :
    Nms w bx v' (l ++ [nm]) (W'.setCell ⟨bx, 0, none⟩ v') := by
  have hbx : bx < W.heap.size := (Array.getElem?_eq_some_iff.1 h.box).1
  have hb : W'.heap[bx]? = some (.cells #[v] 61) := by rw [hg.block bx hbx (fun e => h.ne e.symm)]; exact h.box
  have hoth : ∀ q, q ≠ bx → (W'.setCell ⟨bx, 0, none⟩ v').heap[q]? = W'.heap[q]? := fun q hq => Below.heap_setCell _ _ _ _ hq
  have hsz : (W'.setCell ⟨bx, 0, none⟩ v').heap.size = W'.heap.size := by simp [World.setCell]
  have hne : v'.ownBlock ≠ some bx := by
    rcases ha with e | e
    · rw [e]; exact h.ne
    · rw [e]; intro z; cases z; omega
  refine ⟨?_, ?_, hne, h.bel.trans ⟨hg.os, hg.tape, hg.output, by rw [hsz]; exact hg.size, fun q hq => ?_⟩, h.lo⟩
  · have e : strs (l ++ [nm]) = strs l ++ [.string nm] := by simp [strs]
    rw [e, List.length_append]
    exact Idl.ownsRow_of_block ho (fun q hq => hoth q (fun z => hne (by rw [← z]; exact hq)))
  · rw [setCell_eq_setRow W' bx 0 _ _ _ v' hb, setRow_heap W' bx _ _ _ _ hb]; rfl
  · have := h.lo
    rw [hoth q (by omega)]
    refine hg.block q (Nat.lt_of_lt_of_le hq h.bel.size) (fun e => ?_)
    have := (h.row.lt q e.symm).1
    omega
end
theorem dir_ent {cs ds : Array Value} {m : Img} (h : IsImg cs m) {d s : Nat} (hd : d < 3) (hs : s < 4) : ((cs ++ ds).extract (40 + d * 12) (40 + d * 12 + 12)).extract (s * 3) (s * 3 + 3) = #[.string (m.name d s), .int .i64 (m.ino d s), .int .i64 (m.est d s)] := by
  have hz := h.size
  have h0 := h.name d s hd hs
  have h1 := h.ino d s hd hs
  have h2 := h.est d s hd hs
  refine Array.ext_getElem? fun i => ?_
  rw [Array.getElem?_extract, Array.getElem?_extract]
  simp only [Array.size_extract, Array.size_append, hz]
  by_cases hi : i < 3
  · rw [if_pos (by omega), if_pos (by omega), Array.getElem?_append, if_pos (by omega)]
    have : i = 0 ∨ i = 1 ∨ i = 2 := by omega
    rcases this with rfl | rfl | rfl
    · rw [show 40 + d * 12 + (s * 3 + 0) = 40 + d * 12 + s * 3 by omega, h0]; rfl
    · rw [show 40 + d * 12 + (s * 3 + 1) = 40 + d * 12 + s * 3 + 1 by omega, h1]; rfl
    · rw [show 40 + d * 12 + (s * 3 + 2) = 40 + d * 12 + s * 3 + 2 by omega, h2]; rfl
  · rw [if_neg (by omega)]
    simp; omega
section
variable {w : World} {bf bc : Nat} {cs ds : Array Value} {m k : Img} {last : Int}
set_option maxHeartbeats 4000000 in
set_option maxRecDepth 100000 in
theorem sList_any (h : Fl w bf bc cs ds m k last) (hm : m.check = 0) (d : Int) :
    Calls Tryz.prog 22 #[.pointer (some ⟨bf, 0, none⟩), .int .i64 d] w fun e w' => ∃ v, e = .returned v ∧ w'.ownsRow w.heap.size 9 1 v (Img.snames m d).length (strs (Img.snames m d)) ∧ Below w.heap.size w w' := by
  by_cases hd0 : d < 0
  · have e0 : Img.snames m d = [] := by unfold Img.snames; rw [if_neg (by omega)]
    rw [e0]
    have u1 : decide (d < 0) = true := by simpa using hd0
    clear h hd0
    go_enter Tryz.func22, Tryz.ntmps22
    go_wp2_with fail
    go_ret
    exact ⟨_, rfl, World.ownsRow_nil _ _ _ _, Below.refl _ _⟩
  · by_cases hd3 : 3 ≤ d
    · have e0 : Img.snames m d = [] := by unfold Img.snames; rw [if_neg (by omega)]
      rw [e0]
      have u1 : decide (d < 0) = false := by simpa using hd0
      have u2 : decide (d ≥ 3) = true := by simpa using hd3
      have u3 : decide (3 ≤ d) = true := by simpa using hd3
      clear h hd0 hd3
      go_enter Tryz.func22, Tryz.ntmps22
      go_wp2_with fail
      go_ret
      exact ⟨_, rfl, World.ownsRow_nil _ _ _ _, Below.refl _ _⟩
    · obtain ⟨dd, rfl⟩ := Int.eq_ofNat_of_zero_le (show 0 ≤ d by omega)
      have hd : dd < 3 := by omega
      have e0 : Img.snames m (dd : Int) = sortN (Img.rawN m dd 4) := by unfold Img.snames; rw [if_pos (by omega), Int.toNat_natCast]
      rw [e0]
      obtain ⟨i0, hi0, hz0, hz1, hz2⟩ := Idl.str_info
      have u1 : decide ((dd : Int) < 0) = false := by simp
      have u2 : decide ((dd : Int) ≥ 3) = false := by simp; omega
      have u3 : decide (3 ≤ (dd : Int)) = false := by simp; omega
      have dz : (dd : Int) < 3 := by omega
      have z1 := h.now.size
      have HN := hide h.now
      have HNM := hide (Img.rawN_nodup hm hd (n := 4) (Nat.le_refl _))
      have HRL := hide (Img.rawN_len m dd)
      have ROWC := hide (show (w.alloc (.cells #[.slice none 0 0] 61)).heap[bc]? = some (.cells (cs ++ ds) 57) by rw [Below.heap_alloc _ _ _ h.clt]; exact h.row)
      have p0 : (w.alloc (.cells #[.slice none 0 0] 61)).cell? ⟨bf, 0, none⟩ = some (.pointer (some ⟨bc, 0, none⟩)) := (h.below ((Below.refl _ w).alloc (Nat.le_refl _) _)).ptr
      have l0 : bf < (w.alloc (.cells #[.slice none 0 0] 61)).heap.size := (h.below ((Below.refl _ w).alloc (Nat.le_refl _) _)).flt
      have l1 : bc < (w.alloc (.cells #[.slice none 0 0] 61)).heap.size := (h.below ((Below.refl _ w).alloc (Nat.le_refl _) _)).clt
      have START := hide (show Nms w w.heap.size (.slice none 0 0) [] (w.alloc (.cells #[.slice none 0 0] 61)) from ⟨World.ownsRow_nil _ _ _ _, heap_alloc_last _ _, (by intro z; cases z), (Below.refl _ w).alloc (Nat.le_refl _) _, Nat.le_refl _⟩)
      have EX := hide fun i (hi : i < 4) => dir_ent (unhide HN) (ds := ds) hd hi
      obtain ⟨X, hX⟩ : ∃ X, X = (cs ++ ds).extract (40 + dd * 12) (40 + dd * 12 + 12) := ⟨_, rfl⟩
      rw [← hX] at EX
      have HX := hide hX
      clear h hX e0 hd0 hd3
      go_enter Tryz.func22, Tryz.ntmps22
      go_wp2_with (refine wpList_load_part rfl 38 _ rfl bc (40 + dd * 12) 12 rfl 57 (cs ++ ds) _ (unhide ROWC) Tryz.underlying38 rfl dir_info (by rw [Array.size_append, z1]; omega) ?_; rw [← unhide HX])
      go_loopw [24] (fun i W => ∃ j v, j ≤ 4 ∧ i = .int .i64 ((j : Nat) : Int) ∧ Hid (Nms w w.heap.size v (Img.rawN m dd j) W)) (fun i _ => 4 - (intOf i).toNat)
      case atStart => exact ⟨0, _, by omega, rfl, START⟩
      case round =>
        clear START p0 l0 l1 ROWC HX
        obtain ⟨j, v, hj, rfl, HW⟩ := hrel
        by_cases hlt : j < 4
        · have jz : (j : Int) < 4 := by omega
          have ej := unhide EX j hlt
          have EJ := hide ej
          have RAW := hide (show Img.rawN m dd (j + 1) = Img.rawN m dd j ++ (if m.named dd j then [m.name dd j] else []) from rfl)
          have hln := unhide HRL j
          have hnam : (m.name dd j).toList.isEmpty = !m.named dd j := by unfold Img.named; simp
          obtain ⟨a, c, rfl, _⟩ := own_form1 (unhide HW).row
          generalize Img.rawN m dd j = l at RAW hln HW
          generalize m.named dd j = nb at RAW hnam
          generalize m.name dd j = nm at EJ RAW hnam
          generalize m.ino dd j = ia at EJ
          generalize m.est dd j = es at EJ
          clear ej EX
          have tj : decide ((j : Int) < 4) = true := by simpa using jz
          cases nb
          · have hE : nm.toList.isEmpty = true := by simpa using hnam
            have E1 := hide (show Img.rawN m dd (j + 1) = l by rw [unhide RAW]; simp)
            clear hnam RAW
            go_wp2_with (first | (refine wpList_val (v := .agg #[.string nm, .int .i64 ia, .int .i64 es]) rfl (by rw [← unhide EJ]; exact Op1.iv_slot (.tmp 23) (.tmp 24) rfl rfl rfl hlt _) ?_) | (refine wpList_store_row rfl 37 _ _ rfl wr.heap.size #[.string nm, .int .i64 ia, .int .i64 es] rfl rfl 37 #[.string ⟨#[]⟩, .int .i64 0, .int .i64 0] (heap_alloc_last wr _) sz_ent rfl (by simp [Value.oneCell']) ?_; have BE := hide (below_setRow ((Below.refl wr.heap.size wr).alloc (Nat.le_refl _) (.cells #[.string ⟨#[]⟩, .int .i64 0, .int .i64 0] 37)) (Nat.le_refl _) #[.string nm, .int .i64 ia, .int .i64 es]); have RE := hide (setRow_heap _ _ _ #[.string nm, .int .i64 ia, .int .i64 es] _ _ (heap_alloc_last wr (.cells #[.string ⟨#[]⟩, .int .i64 0, .int .i64 0] 37))); generalize (wr.alloc (.cells #[.string ⟨#[]⟩, .int .i64 0, .int .i64 0] 37)).setRow wr.heap.size #[.string nm, .int .i64 ia, .int .i64 es] = WE at BE RE ⊢; have c6 : WE.cell? ⟨wr.heap.size, 0, none⟩ = some (.string nm) := (by rw [cell_of_row WE _ 0 _ _ _ (unhide RE)]; rfl); have hlE : wr.heap.size < WE.heap.size := (Array.getElem?_eq_some_iff.1 (unhide RE)).1))
            go_roundw
            case rel => exact ⟨j + 1, _, by omega, by go_num, by rw [unhide E1]; exact (unhide HW).call (unhide BE)⟩
            case measure => simp [intOf]; omega
          · have hE : nm.toList.isEmpty = false := by simpa using hnam
            have E1 := hide (show Img.rawN m dd (j + 1) = l ++ [nm] by rw [unhide RAW]; simp)
            clear hnam RAW
            go_upto_region 8 with (first | (refine wpList_val (v := .agg #[.string nm, .int .i64 ia, .int .i64 es]) rfl (by rw [← unhide EJ]; exact Op1.iv_slot (.tmp 23) (.tmp 24) rfl rfl rfl hlt _) ?_) | (refine wpList_store_row rfl 37 _ _ rfl wr.heap.size #[.string nm, .int .i64 ia, .int .i64 es] rfl rfl 37 #[.string ⟨#[]⟩, .int .i64 0, .int .i64 0] (heap_alloc_last wr _) sz_ent rfl (by simp [Value.oneCell']) ?_; have BE := hide (below_setRow ((Below.refl wr.heap.size wr).alloc (Nat.le_refl _) (.cells #[.string ⟨#[]⟩, .int .i64 0, .int .i64 0] 37)) (Nat.le_refl _) #[.string nm, .int .i64 ia, .int .i64 es]); have RE := hide (setRow_heap _ _ _ #[.string nm, .int .i64 ia, .int .i64 es] _ _ (heap_alloc_last wr (.cells #[.string ⟨#[]⟩, .int .i64 0, .int .i64 0] 37))); generalize (wr.alloc (.cells #[.string ⟨#[]⟩, .int .i64 0, .int .i64 0] 37)).setRow wr.heap.size #[.string nm, .int .i64 ia, .int .i64 es] = WE at BE RE ⊢; have c6 : WE.cell? ⟨wr.heap.size, 0, none⟩ = some (.string nm) := (by rw [cell_of_row WE _ 0 _ _ _ (unhide RE)]; rfl); have hlE : wr.heap.size < WE.heap.size := (Array.getElem?_eq_some_iff.1 (unhide RE)).1))
            have HW1 := hide ((unhide HW).call (unhide BE))
            have c5 : WE.cell? ⟨w.heap.size, 0, none⟩ = some (.slice a l.length c) := by rw [cell_of_row WE _ 0 _ _ _ (unhide HW1).box]; rfl
            have hl5 : w.heap.size < WE.heap.size := (Array.getElem?_eq_some_iff.1 (unhide HW1).box).1
            have HW2 := hide ((unhide HW1).call ((Below.refl _ _).alloc (Nat.le_refl _) (.cells #[.string nm] 9)))
            obtain ⟨v', W5, hrun, ho5, hg5, _, ha5⟩ := run_append_own_at (P := Tryz.prog) (WE.alloc (.cells #[.string nm] 9)) w.heap.size 61 61 9 i0 _ 1 16 Tryz.underlying61 hi0 hz0 hz1 hz2 rfl (by omega) _ l.length (strs l) (unhide HW2).row ⟨WE.heap.size, 0, none⟩ 1 1 [.string nm] rfl (Idl.one_new _ _ _ _ rfl) (Idl.one_str nm) (by unfold maxLen; omega) (by omega) (by have := (unhide HW2).bel.size; exact this)
            have DONE := hide ((unhide HW2).more ho5 hg5 ha5)
            obtain ⟨a', c', rfl, _⟩ := own_form1 ho5
            have c7 : W5.cell? ⟨w.heap.size, 0, none⟩ = some (.slice a l.length c) := by
              rw [World.cell?_of_block (hg5.block w.heap.size (Array.getElem?_eq_some_iff.1 (unhide HW2).box).1 (fun z => (unhide HW2).ne z.symm)), cell_of_row _ _ 0 _ _ _ (unhide HW2).box]; rfl
            have z7 : W5.frozen? ⟨w.heap.size, 0, none⟩ = false := by
              rw [World.frozen?_of_block (hg5.block w.heap.size (Array.getElem?_eq_some_iff.1 (unhide HW2).box).1 (fun z => (unhide HW2).ne z.symm))]; exact frozen_of_row _ _ 0 _ _ (unhide HW2).box
            clear ho5 hg5 ha5
            go_wp2_with (at_builtin; refine Lib.wpList_append_run _ rfl _ _ _ _ rfl _ _ rfl rfl _ _ hrun ?_)
            go_roundw
            case rel => exact ⟨j + 1, _, by omega, by go_num, by rw [unhide E1]; exact unhide DONE⟩
            case measure => simp [intOf]; omega
        · have ej : j = 4 := by omega
          subst ej
          have tj : decide (((4 : Nat) : Int) < 4) = false := by decide
          obtain ⟨a, c, rfl, _⟩ := own_form1 (unhide HW).row
          have hl4 := unhide HRL 4
          have hnd := unhide HNM
          obtain ⟨l, hl⟩ : ∃ l, l = Img.rawN m dd 4 := ⟨_, rfl⟩
          rw [← hl] at HW hl4 hnd
          have HL := hide hl
          clear hl
          have c5 : wr.cell? ⟨w.heap.size, 0, none⟩ = some (.slice a l.length c) := by rw [cell_of_row wr _ 0 _ _ _ (unhide HW).box]; rfl
          have C1 := hide (sorts_any l hnd (by omega) (unhide HW).row (unhide HW).box (unhide HW).ne)
          go_wp2_with fail
          refine (unhide C1).mono ?_
          rintro e w9 ⟨rfl, ho9, hg9⟩
          have HO9 := hide ho9
          have hb9 : w9.heap[w.heap.size]? = some (.cells #[.slice a l.length c] 61) := by
            rw [hg9.block _ (Array.getElem?_eq_some_iff.1 (unhide HW).box).1 (fun z => (unhide HW).ne z.symm)]; exact (unhide HW).box
          have BEL := hide ((unhide HW).bel.grown hg9 (unhide HW).bel.size (fun q hq => ((unhide HW).row.lt q hq).1))
          have c9 : w9.cell? ⟨w.heap.size, 0, none⟩ = some (.slice a l.length c) := by rw [cell_of_row w9 _ 0 _ _ _ hb9]; rfl
          clear ho9 hg9 hb9 C1 c5
          go_wp2_with fail
          go_ret
          refine ⟨_, rfl, ?_, unhide BEL⟩
          rw [← unhide HL, sortN_len hnd]
          exact unhide HO9
end
end Go.Proofs.YtmbpckmpnnmnmacGreat
