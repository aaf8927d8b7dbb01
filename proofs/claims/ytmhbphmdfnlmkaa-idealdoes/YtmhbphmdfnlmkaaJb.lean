/-
  What each step does to the reference's tags. No Go in here.
-/
import Derived.Test.YtmhbphmdfnlmkaaJa
namespace Go.Proofs.Ytmhbphmdfnlmkaa
namespace Idl
theorem lookS_add {S : St} (hI : Inv S) {d : Int} (hd : isD d = true) (s : ByteArray) (n : Nat) (e : Int) (t : ByteArray) : lookS (S.add d.toNat s n) e t = if e = d ∧ t = s then some n else lookS S e t := by
  unfold lookS
  cases he : isD e
  · have : ¬ (e = d ∧ t = s) := fun h => by rw [h.1, hd] at he; cases he
    rw [if_neg this]; rfl
  · simp only [if_true]
    show look (setD S.dir d.toNat (ins (S.dir d.toNat) s n) e.toNat) t = _
    unfold setD
    have h1 := isD_iff.1 he
    have h2 := isD_iff.1 hd
    by_cases c : e = d
    · subst c
      rw [if_pos rfl, ins_look (hI.rise _)]
      by_cases c2 : t = s
      · subst c2; rw [keq_self, if_pos rfl, if_pos ⟨rfl, rfl⟩]
      · rw [keq_false.2 (fun z => c2 z.symm), if_neg (by simp), if_neg (fun z => c2 z.2)]
    · rw [if_neg (by omega), if_neg (fun z => c z.1)]
theorem lookS_drop {S : St} (hI : Inv S) {d : Int} (hd : isD d = true) {s : ByteArray} {n : Nat} (hl : look (S.dir d.toNat) s = some n) (e : Int) (t : ByteArray) : lookS (S.drop d.toNat s) e t = if e = d ∧ t = s then none else lookS S e t := by
  unfold lookS
  cases he : isD e
  · have : ¬ (e = d ∧ t = s) := fun h => by rw [h.1, hd] at he; cases he
    rw [if_neg this]; rfl
  · simp only [if_true]
    show look (setD S.dir d.toNat (del (S.dir d.toNat) s) e.toNat) t = _
    unfold setD
    have h1 := isD_iff.1 he
    have h2 := isD_iff.1 hd
    by_cases c : e = d
    · subst c
      rw [if_pos rfl, del_look (hI.rise _) hl]
      by_cases c2 : t = s
      · subst c2; rw [keq_self, if_pos rfl, if_pos ⟨rfl, rfl⟩]
      · rw [keq_false.2 (fun z => c2 z.symm), if_neg (by simp), if_neg (fun z => c2 z.2)]
    · rw [if_neg (by omega), if_neg (fun z => c z.1)]
theorem lookS_fresh (S : St) (d : Int) (s : ByteArray) : lookS S.fresh d s = lookS S d s := rfl
theorem lookS_put (S : St) (n p : Nat) (b : Bool) (u : ByteArray) (d : Int) (s : ByteArray) : lookS (S.put n p b u) d s = lookS S d s := rfl
theorem Tags.same {S S' : St} {l : List Tg} (h : Tags S l) (e : ∀ d s, lookS S' d s = lookS S d s) : Tags S' l :=
  ⟨h.dirs, h.apart, fun t ht => by rw [e]; exact h.file t ht, fun d s n hn => h.all d s n (by rw [← e]; exact hn)⟩
/-- a new file -/
theorem Tags.make {S : St} {l : List Tg} (h : Tags S l) (hI : Inv S) {x : Stp} (hd : isD x.dir = true) (hn : look (S.dir x.dir.toNat) x.name = none) :
    Tags (S.fresh.add x.dir.toNat x.name S.next) (l ++ [⟨x.dir, x.name, S.next⟩]) :=
  (h.same (lookS_fresh S)).add hd (by rw [lookS_fresh, lookS_in hd]; exact hn) (lookS_add hI.fresh hd x.name S.next)
/-- one name more -/
theorem Tags.link {S : St} {l : List Tg} (h : Tags S l) (hI : Inv S) {d : Int} {s : ByteArray} {n : Nat} (hd : isD d = true) (hn : look (S.dir d.toNat) s = none) :
    Tags (S.add d.toNat s n) (l ++ [⟨d, s, n⟩]) :=
  h.add hd (by rw [lookS_in hd]; exact hn) (lookS_add hI hd s n)
/-- one name less -/
theorem Tags.unlink {S : St} {l : List Tg} (h : Tags S l) (hI : Inv S) {d : Int} {s : ByteArray} {n i : Nat} (hd : isD d = true) (hl : look (S.dir d.toNat) s = some n) (hi : tagAt l d s = some i) :
    Tags (S.drop d.toNat s) (l.take i ++ l.drop (i + 1)) :=
  h.drop hi (lookS_drop hI hd hl)
theorem tagAt_append {l : List Tg} {d : Int} {s : ByteArray} {i : Nat} (hi : tagAt l d s = some i) (t : Tg) : tagAt (l ++ [t]) d s = some i := by
  unfold tagAt at hi ⊢
  rw [List.findIdx?_append, hi]; rfl
/-- the place that 'at' answers -/
def atI (l : List Tg) (d : Int) (s : ByteArray) : Int := match tagAt l d s with | some i => (i : Int) | none => -1
theorem atI_lookS {S : St} {l : List Tg} (h : Tags S l) (d : Int) (s : ByteArray) : (atI l d s = -1 ∧ lookS S d s = none) ∨ ∃ i, ∃ hl : i < l.length, tagAt l d s = some i ∧ atI l d s = (i : Int) ∧ lookS S d s = some l[i].file := by
  unfold atI
  cases e : tagAt l d s with
  | none => exact .inl ⟨rfl, (tagAt_none h).1 e⟩
  | some i =>
    obtain ⟨hl, _, _, h3⟩ := tagAt_some h e
    exact .inr ⟨i, hl, rfl, rfl, h3⟩
end Idl
end Go.Proofs.Ytmhbphmdfnlmkaa
