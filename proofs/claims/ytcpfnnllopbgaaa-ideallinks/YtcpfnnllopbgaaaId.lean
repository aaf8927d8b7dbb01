/-
  What is done to one file is done to no other. No Go in here.
-/
import Derived.Test.YtcpfnnllopbgaaaIc
namespace Go.Proofs.Ytcpfnnllopbgaaa
namespace Idl
theorem look_step {S : St} (h : Inv S) {x : Stp} (hc : code S x = 0) {d : Nat} {nm : ByteArray} (h1 : ¬ ((d : Int) = x.dir ∧ nm = x.name)) (h2 : ¬ ((d : Int) = x.toDir ∧ nm = x.to)) :
    look ((step S x).dir d) nm = look (S.dir d) nm := by
  have g := goes hc
  obtain ⟨dd, ed, hd⟩ := dir_of g.din
  have n1 : ¬ (d = x.dir.toNat ∧ x.name = nm) := fun hh => h1 ⟨by rw [hh.1, ed]; simp, hh.2.symm⟩
  rcases step_cases hc with ⟨k, e⟩ | ⟨k, e⟩ | ⟨k, e⟩ | ⟨k, e⟩ | ⟨k, e⟩ | ⟨k, e⟩ <;> rw [e]
  · rw [add_look h.fresh, if_neg n1]; rfl
  · obtain ⟨t1, t2, t3⟩ := g.to (.inl k)
    obtain ⟨te, ee, he⟩ := dir_of t1
    rw [add_look h, if_neg (fun hh => h2 ⟨by rw [hh.1, ee]; simp, hh.2.symm⟩)]
  · rw [drop_look h _ _ (g.old (by omega)), if_neg n1]
  · obtain ⟨t1, t2, t3⟩ := g.to (.inr k)
    obtain ⟨te, ee, he⟩ := dir_of t1
    have nx := old_lt h (g.old (by omega))
    rw [drop_look (h.add _ _ _ t3 t2 nx) _ _ (ren_old h g k), if_neg n1, add_look h, if_neg (fun hh => h2 ⟨by rw [hh.1, ee]; simp, hh.2.symm⟩)]
  · rfl
  · rfl
theorem file_step {S : St} {x : Stp} (hc : code S x = 0) {m : Nat} (hm : m < S.next) (hne : x.kind ≠ 1 → m ≠ the S x) (p : Nat) : (step S x).has m p = S.has m p ∧ (step S x).txt m p = S.txt m p := by
  rcases step_cases hc with ⟨k, e⟩ | ⟨k, e⟩ | ⟨k, e⟩ | ⟨k, e⟩ | ⟨k, e⟩ | ⟨k, e⟩ <;> rw [e]
  · have : m ≠ S.next := by omega
    simp [St.add, St.fresh, this]
  · exact ⟨rfl, rfl⟩
  · exact ⟨rfl, rfl⟩
  · exact ⟨rfl, rfl⟩
  · have := hne (by omega)
    simp [St.put, this]
  · have := hne (by omega)
    simp [St.put, this]
theorem cut_code {S : St} {d : Nat} {nm : ByteArray} {m : Nat} (hd : d < 3) (hn : Img.isNmB nm.toList = true) (hl : look (S.dir d) nm = some m) {p : Nat} (hp : p < 2) :
    code S (cut d nm p) = 0 ∧ rdT S d nm p = S.txt m p ∧ rdB S d nm p = S.has m p := by
  have hD : isD (d : Int) = true := by simp [isD]; omega
  have hck : chk (cut d nm p) = 0 := by
    simp [chk, cut, spot_ok hD hn]; omega
  have hc : code S (cut d nm p) = 0 := by
    simp [code, hck]
    simp [cut, lookS, hD, hl]
  have ht : the S (cut d nm p) = m := by simp [the, cut, lookS, hD, hl]
  exact ⟨hc, by simp [rdT, hc, ht], by simp [rdB, hc, ht]⟩
/-- the law's heart: what is not of the step is read as before -/
theorem apart_read {S : St} (h : Inv S) (x : Stp) {d : Nat} (hd : d < 3) {nm : ByteArray} {m : Nat} (hn : Img.isNmB nm.toList = true) (hl : look (S.dir d) nm = some m)
    (hs : code S x = 0 → ¬ ((d : Int) = x.dir ∧ nm = x.name) ∧ ¬ ((d : Int) = x.toDir ∧ nm = x.to) ∧ same S d nm x.dir x.name = false) {p : Nat} (hp : p < 2) :
    code (step S x) (cut d nm p) = 0 ∧ code S (cut d nm p) = 0 ∧ rdT (step S x) d nm p = rdT S d nm p ∧ rdB (step S x) d nm p = rdB S d nm p := by
  obtain ⟨a1, a2, a3⟩ := cut_code hd hn hl hp
  by_cases hc : code S x = 0
  · obtain ⟨s1, s2, s3⟩ := hs hc
    have hl' := (look_step h hc s1 s2).trans hl
    obtain ⟨b1, b2, b3⟩ := cut_code hd hn hl' hp
    have hD : isD (d : Int) = true := by simp [isD]; omega
    obtain ⟨f1, f2⟩ := file_step hc (old_lt h hl) (fun hk hm => by
      have g := goes hc
      have ho := g.old hk
      have : same S d nm x.dir x.name = true := by simp [same, lookS, hD, g.din, hl, ho, hm]
      rw [this] at s3; cases s3) p
    exact ⟨b1, a1, by rw [b2, a2, f2], by rw [b3, a3, f1]⟩
  · have e : step S x = S := by simp [step, hc]
    rw [e]
    exact ⟨a1, a1, rfl, rfl⟩
theorem setD_len (f : Nat → List Ent) (d : Nat) (l : List Ent) (e : Nat) : (setD f d l e).length = if e = d then l.length else (f e).length := by
  unfold setD; split <;> rfl
theorem len_step {S : St} (h : Inv S) (x : Stp) {d : Nat} (hd : d < 3) :
    ((names (step S x) d).length : Int) - ((names S d).length : Int) ≤ 1 ∧ -1 ≤ ((names (step S x) d).length : Int) - ((names S d).length : Int) ∧ (code S x ≠ 0 → (names (step S x) d).length = (names S d).length) := by
  have hD : isD (d : Int) = true := by simp [isD]; omega
  have nl : ∀ T : St, (names T d).length = (T.dir d).length := fun T => by simp [names, hD]
  rw [nl, nl]
  by_cases hc : code S x = 0
  · have g := goes hc
    have hx : ∀ n, look (S.dir x.dir.toNat) x.name = some n → (del (S.dir x.dir.toNat) x.name).length + 1 = (S.dir x.dir.toNat).length := fun n hn => del_len (h.rise _) hn
    suffices hh : ((step S x).dir d).length ≤ (S.dir d).length + 1 ∧ (S.dir d).length ≤ ((step S x).dir d).length + 1 from ⟨by omega, by omega, fun hn => absurd hc hn⟩
    rcases step_cases hc with ⟨k, e⟩ | ⟨k, e⟩ | ⟨k, e⟩ | ⟨k, e⟩ | ⟨k, e⟩ | ⟨k, e⟩ <;> rw [e]
    · show (setD S.dir x.dir.toNat _ d).length ≤ _ ∧ _ ≤ (setD S.dir x.dir.toNat _ d).length + 1
      rw [setD_len]
      split
      · rename_i e1
        rw [ins_len, e1]
        show (S.dir x.dir.toNat).length + 1 ≤ _ ∧ _ ≤ (S.dir x.dir.toNat).length + 1 + 1
        omega
      · omega
    · show (setD S.dir x.toDir.toNat _ d).length ≤ _ ∧ _ ≤ (setD S.dir x.toDir.toNat _ d).length + 1
      rw [setD_len]
      split
      · rename_i e1
        rw [ins_len, e1]; omega
      · omega
    · have hl := hx _ (g.old (by omega))
      show (setD S.dir x.dir.toNat _ d).length ≤ _ ∧ _ ≤ (setD S.dir x.dir.toNat _ d).length + 1
      rw [setD_len]
      split
      · rename_i e1
        rw [e1]; omega
      · omega
    · obtain ⟨t1, t2, t3⟩ := g.to (.inr k)
      have nx := old_lt h (g.old (by omega))
      have hl := del_len ((h.add _ _ _ t3 t2 nx).rise _) (ren_old h g k)
      have ha : ((S.add x.toDir.toNat x.to (the S x)).dir x.dir.toNat).length ≤ (S.dir x.dir.toNat).length + 1 ∧ (S.dir x.dir.toNat).length ≤ ((S.add x.toDir.toNat x.to (the S x)).dir x.dir.toNat).length := by
        show (setD S.dir x.toDir.toNat _ _).length ≤ _ ∧ _ ≤ (setD S.dir x.toDir.toNat _ _).length
        rw [setD_len]
        split
        · rename_i e1
          rw [ins_len, e1]; omega
        · omega
      show (setD (S.add x.toDir.toNat x.to (the S x)).dir x.dir.toNat _ d).length ≤ _ ∧ _ ≤ (setD (S.add x.toDir.toNat x.to (the S x)).dir x.dir.toNat _ d).length + 1
      rw [setD_len]
      split
      · rename_i e1
        rw [e1]; omega
      · show (setD S.dir x.toDir.toNat _ d).length ≤ _ ∧ _ ≤ (setD S.dir x.toDir.toNat _ d).length + 1
        rw [setD_len]
        split
        · rename_i e1
          rw [ins_len, e1]; omega
        · omega
    · exact ⟨Nat.le_succ _, Nat.le_succ _⟩
    · exact ⟨Nat.le_succ _, Nat.le_succ _⟩
  · have e : step S x = S := by simp [step, hc]
    rw [e]
    exact ⟨by omega, by omega, fun _ => rfl⟩
end Idl
end Go.Proofs.Ytcpfnnllopbgaaa
