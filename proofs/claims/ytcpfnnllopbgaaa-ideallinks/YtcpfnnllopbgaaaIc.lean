/-
  What follows of steps: there and back. No Go in here.
-/
import Derived.Test.YtcpfnnllopbgaaaIb
namespace Go.Proofs.Ytcpfnnllopbgaaa
namespace Idl
theorem add_look {S : St} (h : Inv S) (e : Nat) (t : ByteArray) (n : Nat) (f : Nat) (u : ByteArray) : look ((S.add e t n).dir f) u = if f = e ∧ t = u then some n else look (S.dir f) u := by
  show look (if f = e then ins (S.dir e) t n else S.dir f) u = _
  by_cases hf : f = e
  · subst hf
    rw [if_pos rfl, ins_look (h.rise f)]
    by_cases ht : t = u
    · subst ht; simp [keq_self]
    · simp [keq_false.2 ht, ht]
  · simp [hf]
theorem drop_look {S : St} (h : Inv S) (d : Nat) (s : ByteArray) {n : Nat} (hl : look (S.dir d) s = some n) (f : Nat) (u : ByteArray) : look ((S.drop d s).dir f) u = if f = d ∧ s = u then none else look (S.dir f) u := by
  show look (if f = d then del (S.dir d) s else S.dir f) u = _
  by_cases hf : f = d
  · subst hf
    rw [if_pos rfl, del_look (h.rise f) hl]
    by_cases ht : s = u
    · subst ht; simp [keq_self]
    · simp [keq_false.2 ht, ht]
  · simp [hf]
theorem St.same_of {S T : St} (hS : Inv S) (hT : Inv T) (h : ∀ f u, look (T.dir f) u = look (S.dir f) u) (h1 : T.has = S.has) (h2 : T.txt = S.txt) (h3 : T.next = S.next) : T = S := by
  have hd : T.dir = S.dir := funext fun f => rising_ext (hT.rise f) (hS.rise f) (h f)
  cases S; cases T
  simp only at hd h1 h2 h3
  rw [hd, h1, h2, h3]
theorem spot_ok {d : Int} {s : ByteArray} (h1 : isD d = true) (h2 : Img.isNmB s.toList = true) : spot d s = 0 := by simp [spot, h1, h2]
theorem dir_of {d : Int} (h : isD d = true) : ∃ n : Nat, d = n ∧ n < 3 := by
  obtain ⟨h0, h3⟩ := isD_iff.1 h
  obtain ⟨n, rfl⟩ := Int.eq_ofNat_of_zero_le h0
  exact ⟨n, rfl, by omega⟩
def back (x : Stp) : Stp := ⟨4, x.toDir, x.dir, 0, x.to, x.name, none0⟩
theorem rename_back {S : St} (h : Inv S) (x : Stp) (hk : x.kind = 4) (hc : code S x = 0) : code (step S x) (back x) = 0 ∧ step (step S x) (back x) = S := by
  have g := goes hc
  have hI := inv_step h x
  have hst : step S x = (S.add x.toDir.toNat x.to (the S x)).drop x.dir.toNat x.name := by
    rcases step_cases hc with ⟨k, e⟩ | ⟨k, e⟩ | ⟨k, e⟩ | ⟨k, e⟩ | ⟨k, e⟩ | ⟨k, e⟩ <;> first | exact e | omega
  have hold := g.old (by omega)
  have hro := ren_old h g hk
  obtain ⟨t1, t2, t3⟩ := g.to (.inr hk)
  have nx := old_lt h hold
  have hA : Inv (S.add x.toDir.toNat x.to (the S x)) := h.add _ _ _ t3 t2 nx
  have hlook : ∀ f u, look ((step S x).dir f) u = if f = x.dir.toNat ∧ x.name = u then none else if f = x.toDir.toNat ∧ x.to = u then some (the S x) else look (S.dir f) u := fun f u => by
    rw [hst, drop_look hA _ _ hro, add_look h]
  have hne : ¬ (x.toDir.toNat = x.dir.toNat ∧ x.name = x.to) := fun hh => by
    rw [hh.1, ← hh.2, hold] at t3; cases t3
  have l1 : look ((step S x).dir x.toDir.toNat) x.to = some (the S x) := by
    rw [hlook, if_neg hne, if_pos ⟨rfl, rfl⟩]
  have l2 : look ((step S x).dir x.dir.toNat) x.name = none := by
    rw [hlook, if_pos ⟨rfl, rfl⟩]
  have hcb : code (step S x) (back x) = 0 := by
    have hck : chk (back x) = 0 := by simp [chk, back, spot_ok t1 t2, spot_ok g.din g.nm]
    simp [code, hck]
    simp [back, lookS, t1, g.din, l1, l2]
  have hth : the (step S x) (back x) = the S x := by
    simp [the, back, lookS, t1, l1]
  refine ⟨hcb, ?_⟩
  have hI2 := inv_step hI (back x)
  have hst2 : step (step S x) (back x) = ((step S x).add x.dir.toNat x.name (the S x)).drop x.toDir.toNat x.to := by
    rcases step_cases hcb with ⟨k, e⟩ | ⟨k, e⟩ | ⟨k, e⟩ | ⟨k, e⟩ | ⟨k, e⟩ | ⟨k, e⟩
    · simp [back] at k
    · simp [back] at k
    · simp [back] at k
    · rw [e, hth]; rfl
    · simp [back] at k
    · simp [back] at k
  have hB : Inv ((step S x).add x.dir.toNat x.name (the S x)) := hI.add _ _ _ l2 g.nm (by rw [hst]; exact nx)
  have l3 : look (((step S x).add x.dir.toNat x.name (the S x)).dir x.toDir.toNat) x.to = some (the S x) := by
    rw [add_look hI, l1]; split <;> rfl
  refine St.same_of h hI2 (fun f u => ?_) (by rw [hst2, hst]; rfl) (by rw [hst2, hst]; rfl) (by rw [hst2, hst]; rfl)
  rw [hst2, drop_look hB _ _ l3, add_look hI, hlook]
  by_cases c1 : f = x.toDir.toNat ∧ x.to = u
  · rw [if_pos c1, c1.1, ← c1.2, t3]
  · rw [if_neg c1]
    by_cases c2 : f = x.dir.toNat ∧ x.name = u
    · rw [if_pos c2, c2.1, ← c2.2, hold]
    · rw [if_neg c2, if_neg c2, if_neg c1]
def unl (x : Stp) : Stp := ⟨3, x.toDir, 0, 0, x.to, none0, none0⟩
theorem link_back {S : St} (h : Inv S) (x : Stp) (hk : x.kind = 2) (hc : code S x = 0) : same (step S x) x.dir x.name x.toDir x.to = true ∧ code (step S x) (unl x) = 0 ∧ step (step S x) (unl x) = S := by
  have g := goes hc
  have hI := inv_step h x
  have hst : step S x = S.add x.toDir.toNat x.to (the S x) := by
    rcases step_cases hc with ⟨k, e⟩ | ⟨k, e⟩ | ⟨k, e⟩ | ⟨k, e⟩ | ⟨k, e⟩ | ⟨k, e⟩ <;> first | exact e | omega
  have hold := g.old (by omega)
  obtain ⟨t1, t2, t3⟩ := g.to (.inl hk)
  have hlook : ∀ f u, look ((step S x).dir f) u = if f = x.toDir.toNat ∧ x.to = u then some (the S x) else look (S.dir f) u := fun f u => by
    rw [hst, add_look h]
  have l1 : look ((step S x).dir x.toDir.toNat) x.to = some (the S x) := by rw [hlook, if_pos ⟨rfl, rfl⟩]
  have l2 : look ((step S x).dir x.dir.toNat) x.name = some (the S x) := by
    rw [hlook, hold]; split <;> rfl
  have hcb : code (step S x) (unl x) = 0 := by
    have hck : chk (unl x) = 0 := by simp [chk, unl, spot_ok t1 t2]
    simp [code, hck]
    simp [unl, lookS, t1, l1]
  refine ⟨by simp [same, lookS, g.din, t1, l1, l2], hcb, ?_⟩
  have hI2 := inv_step hI (unl x)
  have hst2 : step (step S x) (unl x) = (step S x).drop x.toDir.toNat x.to := by
    rcases step_cases hcb with ⟨k, e⟩ | ⟨k, e⟩ | ⟨k, e⟩ | ⟨k, e⟩ | ⟨k, e⟩ | ⟨k, e⟩
    · simp [unl] at k
    · simp [unl] at k
    · rw [e]; rfl
    · simp [unl] at k
    · simp [unl] at k
    · simp [unl] at k
  refine St.same_of h hI2 (fun f u => ?_) (by rw [hst2, hst]; rfl) (by rw [hst2, hst]; rfl) (by rw [hst2, hst]; rfl)
  rw [hst2, drop_look hI _ _ l1, hlook]
  by_cases c1 : f = x.toDir.toNat ∧ x.to = u
  · rw [if_pos c1, c1.1, ← c1.2, t3]
  · rw [if_neg c1, if_neg c1]
theorem names_mem {S : St} {d : Nat} (hd : d < 3) {i : Nat} (hi : i < (names S d).length) : ∃ n, ((names S d)[i], n) ∈ S.dir d := by
  have e : names S d = (S.dir d).map (·.1) := by simp [names, isD]; omega
  have hi' : i < (S.dir d).length := by rw [e, List.length_map] at hi; exact hi
  refine ⟨(S.dir d)[i].2, ?_⟩
  have : (names S d)[i] = (S.dir d)[i].1 := by simp only [e, List.getElem_map]
  rw [this]
  exact List.getElem_mem hi'
/-- what is listed may be read -/
theorem read_ok {S : St} (h : Inv S) {d : Nat} (hd : d < 3) {i : Nat} (hi : i < (names S d).length) (p : Nat) (hp : p < 2) : code S (cut d (names S d)[i] p) = 0 := by
  obtain ⟨n, hm⟩ := names_mem hd hi
  have g1 := h.good d _ hm
  have g2 := look_mem (h.rise d) hm
  simp only at g1 g2
  have hD : isD (d : Int) = true := by simp [isD]; omega
  generalize (names S d)[i] = s at g1 g2
  have hck : chk (cut d s p) = 0 := by
    simp [chk, cut, spot_ok hD g1]; omega
  simp [code, hck]
  simp [cut, lookS, hD, g2]
end Idl
end Go.Proofs.Ytcpfnnllopbgaaa
