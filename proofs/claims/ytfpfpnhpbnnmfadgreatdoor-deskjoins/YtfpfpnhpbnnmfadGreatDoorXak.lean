/-
  Three times all blocks are enough. No Go in here.
-/
import Derived.Test.YtfpfpnhpbnnmfadGreatDoorXaj
import Derived.Test.YtfpfpnhpbnnmfadGreatDoorXag
import Derived.RegionTactic
import Derived.BigRegion
import Derived.ChangeAlike
namespace Go.Proofs.YtfpfpnhpbnnmfadGreatDoor
namespace Img
variable {now disk : Img}
/-- an entry is not put where the disk has another one -/
def Slotty (now disk : Img) : Prop := ∀ d s, d < 3 → s < 4 → now.named d s = true → disk.named d s = true → now.entry d s = disk.entry d s
def DataAs (now disk : Img) : Prop := ∀ x, x < 9 → disk.of x = now.of x ∧ disk.text x = now.text x
/-- each entry is the disk's, or as it is to be, or none; inodes are the disk's -/
structure Mix (now E M : Img) : Prop where
  ent : ∀ d s, d < 3 → s < 4 → M.entry d s = E.entry d s ∨ M.entry d s = now.entry d s ∨ M.entry d s = Ent.none
  ino : ∀ n, n < 8 → M.inode n = E.inode n
  dat : M.of = E.of ∧ M.text = E.text
theorem Mix.refl (now E : Img) : Mix now E E := ⟨fun _ _ _ _ => .inl rfl, fun _ _ => rfl, rfl, rfl⟩
theorem none_unnamed {m : Img} {d s : Nat} (h : m.entry d s = Ent.none) : m.named d s = false := by
  have : m.name d s = ⟨#[]⟩ := by unfold entry Ent.none at h; injection h
  unfold named; rw [this, empty_list]; rfl
theorem named_of_entry {a b : Img} {d s : Nat} (h : a.entry d s = b.entry d s) : a.named d s = b.named d s := by
  unfold named; rw [(named_entry h).1]
theorem leads_of_entry {a b : Img} {d s : Nat} (h : a.entry d s = b.entry d s) (ino : Int) : a.leads ino d s = b.leads ino d s := by
  rw [← entry_leads, ← entry_leads, h]
theorem Mix.slotty {E M : Img} (h : Mix now E M) (hS : Slotty now E) : Slotty now M := fun d s hd hs h1 h2 => by
  rcases h.ent d s hd hs with e | e | e
  · rw [e]; exact hS d s hd hs h1 (by rw [← named_of_entry e]; exact h2)
  · exact e.symm
  · rw [none_unnamed e] at h2; cases h2
theorem entryAs_mix {E M : Img} (h : Mix now E M) {d s : Nat} (hd : d < 3) (hs : s < 4) : entryAs now M d s = E.entry d s ∨ entryAs now M d s = now.entry d s ∨ entryAs now M d s = Ent.none := by
  unfold entryAs
  split
  · exact h.ent d s hd hs
  · split
    · split
      · exact .inr (.inl rfl)
      · exact h.ent d s hd hs
    · split
      · exact .inr (.inr rfl)
      · exact h.ent d s hd hs
theorem Mix.put {E M : Img} (h : Mix now E M) {d s : Nat} (hd : d < 3) (hs : s < 4) : Mix now E (M.putEnt d s (entryAs now M d s)) := by
  refine ⟨fun d' s' hd' hs' => ?_, fun n hn => h.ino n hn, h.dat⟩
  by_cases e : d' = d ∧ s' = s
  · obtain ⟨rfl, rfl⟩ := e
    rw [putEnt_at]; exact entryAs_mix h hd hs
  · rw [putEnt_other M _ e]; exact h.ent d' s' hd' hs'
theorem Mix.wDir {E M : Img} (h : Mix now E M) {d : Nat} (hd : d < 3) : ∀ s, s ≤ 4 → Mix now E (wDir now M d s)
  | 0, _ => h
  | s + 1, hs => (Mix.wDir h hd s (by omega)).put hd (by omega)
/-! counts -/
theorem cnt_mono {p q : Nat → Bool} : ∀ {n : Nat}, (∀ j, j < n → p j = true → q j = true) → cnt p n ≤ cnt q n
  | 0, _ => Nat.le_refl _
  | n + 1, h => by
    have h1 := cnt_mono (p := p) (q := q) (n := n) (fun j hj => h j (by omega))
    unfold cnt
    cases hp : p n
    · simp; omega
    · rw [h n (by omega) hp]; simp; omega
theorem cnt_lt {p q : Nat → Bool} {s : Nat} (hp : p s = false) (hq : q s = true) : ∀ {n : Nat}, s < n → (∀ j, j < n → p j = true → q j = true) → cnt p n < cnt q n
  | 0, hs, _ => by omega
  | n + 1, hs, h => by
    by_cases e : s = n
    · subst e
      have h1 := cnt_mono (p := p) (q := q) (n := s) (fun j hj => h j (by omega))
      unfold cnt
      rw [hp, hq]; simp; omega
    · have h1 := cnt_lt hp hq (n := n) (by omega) (fun j hj => h j (by omega))
      unfold cnt
      cases hpn : p n
      · simp; omega
      · rw [h n (by omega) hpn]; simp; omega
theorem refs_lt_uni {E M : Img} {ino : Int} (h : ∀ d s, d < 3 → s < 4 → M.leads ino d s = true → both now E ino d s = true) {d s : Nat} (hd : d < 3) (hs : s < 4) (h1 : M.leads ino d s = false) (h2 : both now E ino d s = true) : M.refs ino < uni now E ino := by
  have hle : ∀ k, k ≤ 3 → M.refsTo ino k ≤ uniTo now E ino k := fun k => by
    induction k with
    | zero => intro _; exact Nat.le_refl _
    | succ k ih =>
      intro hk
      have := ih (by omega)
      have := cnt_mono (p := M.leads ino k) (q := both now E ino k) (n := 4) (fun j hj => h k j (by omega) hj)
      unfold refsTo uniTo; omega
  have hlt : ∀ k, k ≤ 3 → d < k → M.refsTo ino k < uniTo now E ino k := fun k => by
    induction k with
    | zero => intro _ h; omega
    | succ k ih =>
      intro hk hdk
      unfold refsTo uniTo
      by_cases e : d = k
      · subst e
        have := hle d (by omega)
        have := cnt_lt (p := M.leads ino d) (q := both now E ino d) h1 h2 (n := 4) hs (fun j hj => h d j (by omega) hj)
        omega
      · have := ih (by omega) (by omega)
        have := cnt_mono (p := M.leads ino k) (q := both now E ino k) (n := 4) (fun j hj => h k j (by omega) hj)
        omega
  exact hlt 3 (Nat.le_refl _) hd
theorem uni_congr {a a' b b' : Img} {ino : Int} (ha : ∀ d s, d < 3 → s < 4 → a.leads ino d s = a'.leads ino d s) (hb : ∀ d s, d < 3 → s < 4 → b.leads ino d s = b'.leads ino d s) : uni a b ino = uni a' b' ino := by
  have : ∀ k, k ≤ 3 → uniTo a b ino k = uniTo a' b' ino k := fun k => by
    induction k with
    | zero => intro _; rfl
    | succ k ih =>
      intro hk
      unfold uniTo
      rw [ih (by omega), cnt_congr (p := both a b ino k) (q := both a' b' ino k) (fun j hj => by unfold both; rw [ha k j (by omega) hj, hb k j (by omega) hj])]
  exact this 3 (Nat.le_refl _)
/-- behind all blocks, once -/
structure Round (now E : Img) : Prop where
  dat : DataAs now E
  live : ∀ n, n < 8 → now.live n = true → E.inode n = ⟨true, now.stamp n, uni now E n, now.part n 0, now.part n 1⟩
  dead : ∀ n, n < 8 → now.live n = false → uni now E n = 0 → E.inode n = Ino.none
  slot : Slotty now E
/-- a name that is to come comes -/
theorem come {E M : Img} (hn : now.check = 0) (hR : Round now E) (hM : Mix now E M) {d s : Nat} (hd : d < 3) (hs : s < 4) (hnm : now.named d s = true) : entryAs now M d s = now.entry d s := by
  unfold entryAs
  by_cases e1 : sameEnt now M d s = true
  · rw [if_pos e1]; exact (sameEnt_eq e1).symm
  · rw [if_neg e1]
    have hu : M.named d s = false := by
      cases e : M.named d s
      · rfl
      · exact absurd (sameEnt_of (hM.slotty hR.slot d s hd hs hnm e)) e1
    rw [if_pos hu]
    have ok := (slot_ok hnm).1 ((well_iff.1 hn).slot d s hd hs)
    obtain ⟨i, hi⟩ := Int.eq_ofNat_of_zero_le ok.lo
    have hi8 : i < 8 := by have := ok.hi; omega
    have hi' : now.ino d s = (i : Int) := hi
    have hl : now.live i = true := by have := ok.live; rwa [hi', Int.toNat_natCast] at this
    have hst : now.stamp i = now.est d s := by have := ok.stamp; rwa [hi', Int.toNat_natCast] at this
    obtain ⟨g1, g2, g3, _, _⟩ := inode_is ((hM.ino i hi8).trans (hR.live i hi8 hl))
    have hlead : now.leads (i : Int) d s = true := slot_leads hnm hi'
    have hlt : M.refs (i : Int) < uni now E (i : Int) := by
      refine refs_lt_uni (fun d' s' hd' hs' h => ?_) hd hs (by unfold leads; rw [hu]; rfl) (by unfold both; rw [hlead]; rfl)
      unfold both
      rcases hM.ent d' s' hd' hs' with e | e | e
      · rw [← leads_of_entry e, h]; simp
      · rw [← leads_of_entry e, h]; simp
      · rw [← entry_leads, e, none_leads] at h; cases h
    have hc : mayCome M (now.ino d s) (now.est d s) = true := by
      unfold mayCome
      have e1 : isI (i : Int) = true := by simp [isI]; omega
      rw [hi', e1, Int.toNat_natCast, g1, g2, g3, hst]
      simp; omega
    rw [if_pos hc]
/-- all names that are to be are there -/
def Full (now M : Img) : Prop := ∀ d s, d < 3 → s < 4 → now.named d s = true → M.entry d s = now.entry d s
/-- and one that is to go goes then -/
theorem go {M : Img} (hF : Full now M) {d s : Nat} (hd : d < 3) (hs : s < 4) (hne : now.entry d s = Ent.none) (hnm : now.named d s = false) (hm : M.named d s = false → M.entry d s = Ent.none) : entryAs now M d s = Ent.none := by
  unfold entryAs
  by_cases e1 : sameEnt now M d s = true
  · rw [if_pos e1, ← sameEnt_eq e1]; exact hne
  · rw [if_neg e1]
    by_cases e2 : M.named d s = false
    · exact absurd (sameEnt_of (hne.trans (hm e2).symm)) e1
    · rw [if_neg e2]
      have e2' : M.named d s = true := by simpa using e2
      have hg : mayGo now M (M.ino d s) = true := by
        unfold mayGo
        by_cases z : now.refs (M.ino d s) = 0
        · simp [z]
        · rw [Bool.or_eq_true]; left
          have hx : ¬ ∀ d' s', d' < 3 → s' < 4 → now.leads (M.ino d s) d' s' = false := fun h => z (refs_zero_iff.2 h)
          have hl : M.leads (M.ino d s) d s = true := by unfold leads; rw [e2']; simp
          have hc := clear_refs_yes (m := M) (M.ino d s) hd hs hl
          have : 0 < (M.clear d s).refs (M.ino d s) := by
            cases e : decide ((M.clear d s).refs (M.ino d s) = 0)
            · simp at e; omega
            · exfalso
              have e0 : (M.clear d s).refs (M.ino d s) = 0 := by simpa using e
              apply hx
              intro d' s' hd' hs'
              cases e3 : now.leads (M.ino d s) d' s'
              · rfl
              · exfalso
                have hn' : now.named d' s' = true := by unfold leads at e3; simp at e3; exact e3.1
                have hne' : ¬ (d' = d ∧ s' = s) := fun q => by rw [q.1, q.2, hnm] at hn'; cases hn'
                have := refs_pos_of_leads (m := M.clear d s) hd' hs' (by rw [clear_leads _ hne', leads_of_entry (hF d' s' hd' hs' hn'), e3])
                omega
          simp; omega
      rw [if_pos hg]
/-- a directory written: names come -/
theorem wDir_come {E M : Img} (hn : now.check = 0) (hR : Round now E) (hM : Mix now E M) {d : Nat} (hd : d < 3) : ∀ s, s ≤ 4 → ∀ t, t < s → now.named d t = true → (wDir now M d s).entry d t = now.entry d t := by
  intro s hs t ht hnm
  rw [wDir_entry_done now M d s t ht]
  exact come hn hR (hM.wDir hd t (by omega)) hd (by omega) hnm
theorem wDir_full {E M : Img} (hn : now.check = 0) (hR : Round now E) (hM : Mix now E M) (hF : Full now M) {d : Nat} (hd : d < 3) (s : Nat) (hs : s ≤ 4) : Full now (wDir now M d s) := fun d' s' hd' hs' hnm => by
  by_cases e : d' ≠ d ∨ s ≤ s'
  · rw [wDir_entry_other now M d s e]; exact hF d' s' hd' hs' hnm
  · have e1 : d' = d := by omega
    subst e1
    exact wDir_come hn hR hM hd s hs s' (by omega) hnm
/-- empty slots of a disk are empty -/
def Empties (M : Img) : Prop := ∀ d s, d < 3 → s < 4 → M.named d s = false → M.entry d s = Ent.none
theorem Mix.empties {E M : Img} (h : Mix now E M) (h1 : Empties E) (h2 : Empties now) : Empties M := fun d s hd hs hu => by
  rcases h.ent d s hd hs with e | e | e
  · rw [e]; exact h1 d s hd hs (by rw [← named_of_entry e]; exact hu)
  · rw [e]; exact h2 d s hd hs (by rw [← named_of_entry e]; exact hu)
  · exact e
theorem wDir_gone {E M : Img} (hn : now.check = 0) (hR : Round now E) (hM : Mix now E M) (hF : Full now M) (hE : Empties E) {d : Nat} (hd : d < 3) {t : Nat} (ht : t < 4) (hnm : now.named d t = false) : (wDir now M d 4).entry d t = now.entry d t := by
  have h2 : Empties now := fun d s hd hs hu => empty_unnamed hn hd hs hu
  have hne := h2 d t hd ht hnm
  rw [wDir_entry_done now M d 4 t ht, hne]
  exact go (wDir_full hn hR hM hF hd t (by omega)) hd ht hne hnm ((hM.wDir hd t (by omega)).empties hE h2 d t hd ht)
/-! all data, all directories, all inodes -/
def dnF (f : Img → Int → Img) : Nat → Img → Img
  | 0, D => D
  | b + 1, D => dnF f b (f D (b : Int))
theorem dnF_succ (f : Img → Int → Img) (b : Nat) (D : Img) : dnF f (b + 1) D = dnF f b (f D (b : Int)) := rfl
theorem down_dnF (now : Img) : ∀ b D, down now D b = dnF (write now) b D
  | 0, _ => rfl
  | b + 1, D => by unfold down; rw [down_dnF now b, dnF_succ]
def datF (f : Img → Int → Img) : Nat → Img → Img
  | 0, D => D
  | k + 1, D => datF f k (f D ((5 + k : Nat) : Int))
theorem datF_succ (f : Img → Int → Img) (k : Nat) (D : Img) : datF f (k + 1) D = datF f k (f D ((5 + k : Nat) : Int)) := rfl
theorem dnF_dat (f : Img → Int → Img) : ∀ k D, dnF f (5 + k) D = dnF f 5 (datF f k D)
  | 0, _ => rfl
  | k + 1, D => by rw [← Nat.add_assoc, dnF_succ, dnF_dat f k, datF_succ]
theorem dnF_five (f : Img → Int → Img) (D : Img) : dnF f 5 D = f (f (f (f (f D ((4 : Nat) : Int)) ((3 : Nat) : Int)) ((2 : Nat) : Int)) ((1 : Nat) : Int)) ((0 : Nat) : Int) := rfl
def dat (now D : Img) (k : Nat) : Img := datF (write now) k D
theorem dat_succ (now D : Img) (k : Nat) : dat now D (k + 1) = dat now (write now D ((5 + k : Nat) : Int)) k := by unfold dat; rw [datF_succ]
theorem dat_rest (now : Img) : ∀ k D, k ≤ 9 → (∀ d s, (dat now D k).entry d s = D.entry d s) ∧ (∀ n, (dat now D k).inode n = D.inode n) ∧ ∀ x, x < 9 → (x < k ∨ (D.of x = now.of x ∧ D.text x = now.text x)) → (dat now D k).of x = now.of x ∧ (dat now D k).text x = now.text x
  | 0, D, _ => ⟨fun _ _ => rfl, fun _ => rfl, fun x _ h => by
      rcases h with h | h
      · omega
      · exact h⟩
  | k + 1, D, hk => by
    obtain ⟨h1, h2, h3⟩ := dat_rest now k (write now D ((5 + k : Nat) : Int)) (by omega)
    have hw := write_data (now := now) (disk := D) (x := k) (by omega)
    rw [Nat.add_comm k 5] at hw
    rw [dat_succ]
    refine ⟨fun d s => by rw [h1, hw]; rfl, fun n => by rw [h2, hw]; rfl, fun x hx h => h3 x hx ?_⟩
    by_cases e : x = k
    · right
      subst e
      rw [hw]
      exact ⟨if_pos rfl, if_pos rfl⟩
    · rcases h with h | h
      · left; omega
      · right
        rw [hw]
        exact ⟨(if_neg e).trans h.1, (if_neg e).trans h.2⟩
def dirs (now M : Img) : Img := wDir now (wDir now (wDir now M 2 4) 1 4) 0 4
def inos (now M : Img) : Img := wInos now (wInos now M 4 4) 0 4
theorem down_is (now D : Img) : down now D 14 = inos now (dirs now (dat now D 9)) := by
  rw [down_dnF, show (14 : Nat) = 5 + 9 from rfl, dnF_dat, dnF_five]
  show _ = inos now (dirs now (datF (write now) 9 D))
  generalize datF (write now) 9 D = M
  have h4 : ∀ X : Img, write now X ((4 : Nat) : Int) = wDir now X 2 4 := fun X => write_dir (d := 2) (by omega)
  have h3 : ∀ X : Img, write now X ((3 : Nat) : Int) = wDir now X 1 4 := fun X => write_dir (d := 1) (by omega)
  have h2 : ∀ X : Img, write now X ((2 : Nat) : Int) = wDir now X 0 4 := fun X => write_dir (d := 0) (by omega)
  have h1 : ∀ X : Img, write now X ((1 : Nat) : Int) = wInos now X 4 4 := fun X => write_ino (k := 1) (by omega)
  have h0 : ∀ X : Img, write now X ((0 : Nat) : Int) = wInos now X 0 4 := fun X => write_ino (k := 0) (by omega)
  rw [h4, h3, h2, h1, h0]
  rfl
theorem inos_rest (now M : Img) : (inos now M).name = M.name ∧ (inos now M).ino = M.ino ∧ (inos now M).est = M.est ∧ (inos now M).of = M.of ∧ (inos now M).text = M.text := by
  unfold inos
  have h1 := wInos_rest now (wInos now M 4 4) 0 4
  have h2 := wInos_rest now M 4 4
  exact ⟨h1.1.trans h2.1, h1.2.1.trans h2.2.1, h1.2.2.1.trans h2.2.2.1, h1.2.2.2.1.trans h2.2.2.2.1, h1.2.2.2.2.trans h2.2.2.2.2⟩
/-- an inode of what is written depends on the disk's own, the names and the data alone -/
theorem inodeAs_congr {a b : Img} {n : Nat} (h1 : a.name = b.name) (h2 : a.ino = b.ino) (h3 : a.of = b.of) (hi : a.inode n = b.inode n) : inodeAs now a n = inodeAs now b n := by
  obtain ⟨g1, g2, g3, g4⟩ := inode_eq hi
  have hu := uni_of_dirs now h1 h2 (n : Int)
  have hp : ∀ p, p < 2 → partAs now a n p = partAs now b n p := fun p hp => by
    unfold partAs
    rw [h3, g1, g2, g4 p hp]
  unfold inodeAs
  rw [hu, hp 0 (by omega), hp 1 (by omega), g1, g2, g4 0 (by omega), g4 1 (by omega)]
theorem inos_at (now M : Img) {n : Nat} (hn : n < 8) : (inos now M).inode n = inodeAs now M n := by
  unfold inos
  have h2 := wInos_rest now M 4 4
  rcases wInos_cases now (wInos now M 4 4) 0 n with ⟨_, x2, x3⟩ | ⟨x1, x2⟩
  · rw [x3]
    refine inodeAs_congr h2.1 h2.2.1 h2.2.2.2.1 ?_
    exact wInos_other now M 4 4 (.inl (by omega))
  · rw [x2]
    rcases wInos_cases now M 4 n with ⟨_, _, y3⟩ | ⟨y1, _⟩
    · exact y3
    · omega
theorem partAs_now (hn : now.check = 0) {M : Img} (hd : DataAs now M) {n p : Nat} (hn8 : n < 8) (hp : p < 2) (hl : now.live n = true) : partAs now M n p = now.part n p := by
  have hc := checkPart_iff.1 ((inode_parts_ok hn hn8 hl).2.2 p hp)
  unfold partAs
  rcases hc with e | ⟨e1, e2⟩
  · rw [e]; simp [isD]
  · have hb : 0 ≤ now.part n p ∧ now.part n p < 9 := by simpa [isD] using e1
    rw [if_neg (by rw [e1]; simp), (hd (now.part n p).toNat (by omega)).1, if_pos e2]
theorem uni_inos (now M : Img) (ino : Int) : uni now (inos now M) ino = uni now M ino := uni_of_dirs now (inos_rest now M).1 (inos_rest now M).2.1 ino
theorem dirs_mix {E M : Img} (h : Mix now E M) : Mix now E (dirs now M) := ((h.wDir (by omega) 4 (by omega)).wDir (by omega) 4 (by omega)).wDir (by omega) 4 (by omega)
theorem round_of (hn : now.check = 0) {D : Img} (hS : Slotty now D) : Round now (down now D 14) := by
  rw [down_is]
  obtain ⟨a1, a2, a3⟩ := dat_rest now 9 D (Nat.le_refl _)
  have hS' : Slotty now (dat now D 9) := fun d s hd hs h1 h2 => by rw [a1]; exact hS d s hd hs h1 (by rw [← named_of_entry (a1 d s)]; exact h2)
  have hD : DataAs now (dat now D 9) := fun x hx => a3 x hx (.inl hx)
  have hM := dirs_mix (Mix.refl now (dat now D 9))
  have hD2 : DataAs now (dirs now (dat now D 9)) := fun x hx => by rw [hM.dat.1, hM.dat.2]; exact hD x hx
  have hr := inos_rest now (dirs now (dat now D 9))
  refine ⟨fun x hx => by rw [hr.2.2.2.1, hr.2.2.2.2]; exact hD2 x hx, fun n hn8 hl => ?_, fun n hn8 hl hu => ?_, fun d s hd hs h1 h2 => ?_⟩
  · rw [inos_at _ _ hn8, uni_inos]
    unfold inodeAs
    rw [if_pos hl, partAs_now hn hD2 hn8 (by omega) hl, partAs_now hn hD2 hn8 (by omega) hl]
  · rw [inos_at _ _ hn8]
    rw [uni_inos] at hu
    unfold inodeAs
    rw [if_neg (by rw [hl]; simp), if_neg (fun z => z.2 hu)]
  · have he : (inos now (dirs now (dat now D 9))).entry d s = (dirs now (dat now D 9)).entry d s := by unfold entry; rw [hr.1, hr.2.1, hr.2.2.1]
    rw [he]
    exact (hM.slotty hS') d s hd hs h1 (by rw [← named_of_entry he]; exact h2)
/-- behind the second time all names that are to be are there -/
theorem full_of (hn : now.check = 0) {E : Img} (hR : Round now E) : Full now (down now E 14) := by
  rw [down_is]
  obtain ⟨a1, a2, a3⟩ := dat_rest now 9 E (Nat.le_refl _)
  have hR' : Round now (dat now E 9) := by
    have hu : ∀ n : Nat, uni now (dat now E 9) n = uni now E n := fun n => uni_congr (fun _ _ _ _ => rfl) (fun d s _ _ => leads_of_entry (a1 d s) _)
    refine ⟨fun x hx => a3 x hx (.inl hx), fun n hn8 hl => by rw [a2, hu]; exact hR.live n hn8 hl, fun n hn8 hl h => by rw [a2]; exact hR.dead n hn8 hl (by rw [← hu]; exact h), fun d s hd hs h1 h2 => by rw [a1]; exact hR.slot d s hd hs h1 (by rw [← named_of_entry (a1 d s)]; exact h2)⟩
  have m0 := Mix.refl now (dat now E 9)
  have m1 := m0.wDir (d := 2) (by omega) 4 (by omega)
  have m2 := m1.wDir (d := 1) (by omega) 4 (by omega)
  have hr := inos_rest now (dirs now (dat now E 9))
  intro d s hd hs hnm
  have he : (inos now (dirs now (dat now E 9))).entry d s = (dirs now (dat now E 9)).entry d s := by unfold entry; rw [hr.1, hr.2.1, hr.2.2.1]
  rw [he]
  unfold dirs
  have hd' : d = 0 ∨ d = 1 ∨ d = 2 := by omega
  rcases hd' with rfl | rfl | rfl
  · exact wDir_come hn hR' m2 (by omega) 4 (by omega) s hs hnm
  · rw [wDir_entry_other now _ 0 4 (.inl (by omega))]
    exact wDir_come hn hR' m1 (by omega) 4 (by omega) s hs hnm
  · rw [wDir_entry_other now _ 0 4 (.inl (by omega)), wDir_entry_other now _ 1 4 (.inl (by omega))]
    exact wDir_come hn hR' m0 (by omega) 4 (by omega) s hs hnm
/-- behind the third time all lies as it is to -/
theorem done_of (hx : Ex now) {E : Img} (hR : Round now E) (hF : Full now E) (hE : Empties E) : Agree now (down now E 14) := by
  have hn := hx.ok
  rw [down_is]
  obtain ⟨a1, a2, a3⟩ := dat_rest now 9 E (Nat.le_refl _)
  have hR' : Round now (dat now E 9) := by
    have hu : ∀ n : Nat, uni now (dat now E 9) n = uni now E n := fun n => uni_congr (fun _ _ _ _ => rfl) (fun d s _ _ => leads_of_entry (a1 d s) _)
    refine ⟨fun x hx => a3 x hx (.inl hx), fun n hn8 hl => by rw [a2, hu]; exact hR.live n hn8 hl, fun n hn8 hl h => by rw [a2]; exact hR.dead n hn8 hl (by rw [← hu]; exact h), fun d s hd hs h1 h2 => by rw [a1]; exact hR.slot d s hd hs h1 (by rw [← named_of_entry (a1 d s)]; exact h2)⟩
  have hF' : Full now (dat now E 9) := fun d s hd hs h => by rw [a1]; exact hF d s hd hs h
  have hE' : Empties (dat now E 9) := fun d s hd hs h => by rw [a1]; exact hE d s hd hs (by rw [← named_of_entry (a1 d s)]; exact h)
  have m0 := Mix.refl now (dat now E 9)
  have m1 := m0.wDir (d := 2) (by omega) 4 (by omega)
  have m2 := m1.wDir (d := 1) (by omega) 4 (by omega)
  have m3 := m2.wDir (d := 0) (by omega) 4 (by omega)
  have f1 := wDir_full hn hR' m0 hF' (d := 2) (by omega) 4 (by omega)
  have f2 := wDir_full hn hR' m1 f1 (d := 1) (by omega) 4 (by omega)
  have f3 := wDir_full hn hR' m2 f2 (d := 0) (by omega) 4 (by omega)
  have hent : ∀ d s, d < 3 → s < 4 → (dirs now (dat now E 9)).entry d s = now.entry d s := fun d s hd hs => by
    cases hnm : now.named d s
    · unfold dirs
      have hd' : d = 0 ∨ d = 1 ∨ d = 2 := by omega
      rcases hd' with rfl | rfl | rfl
      · exact wDir_gone hn hR' m2 f2 hE' (by omega) hs hnm
      · rw [wDir_entry_other now _ 0 4 (.inl (by omega))]
        exact wDir_gone hn hR' m1 f1 hE' (by omega) hs hnm
      · rw [wDir_entry_other now _ 0 4 (.inl (by omega)), wDir_entry_other now _ 1 4 (.inl (by omega))]
        exact wDir_gone hn hR' m0 hF' hE' (by omega) hs hnm
    · exact f3 d s hd hs hnm
  have hr := inos_rest now (dirs now (dat now E 9))
  have hD2 : DataAs now (dirs now (dat now E 9)) := fun x hx => by
    have : Mix now (dat now E 9) (dirs now (dat now E 9)) := m3
    rw [this.dat.1, this.dat.2]; exact hR'.dat x hx
  have hun : ∀ n : Nat, uni now (dirs now (dat now E 9)) n = now.refs n := fun n => by
    rw [← uni_self now (n : Int)]
    exact uni_congr (fun _ _ _ _ => rfl) (fun d s hd hs => leads_of_entry (hent d s hd hs) _)
  refine .mk3 (fun n hn8 => ?_) (fun d s hd hs => ?_) (fun x hx9 => ?_)
  · rw [inos_at _ _ hn8]
    unfold inodeAs
    rw [hun]
    cases hl : now.live n
    · rw [if_neg (by simp), if_neg (fun z => z.2 (dead_refs hn hl)), inode_free_ok hn hn8 hl]
    · rw [if_pos rfl, partAs_now hn hD2 hn8 (by omega) hl, partAs_now hn hD2 hn8 (by omega) hl, ← (hx.links n hn8 hl).1]
      unfold inode; rw [hl]
  · have he : (inos now (dirs now (dat now E 9))).entry d s = (dirs now (dat now E 9)).entry d s := by unfold entry; rw [hr.1, hr.2.1, hr.2.2.1]
    rw [he, hent d s hd hs]
  · rw [hr.2.2.2.1, hr.2.2.2.2]
    exact ⟨(hD2 x hx9).1.symm, (hD2 x hx9).2.symm⟩
end Img
end Go.Proofs.YtfpfpnhpbnnmfadGreatDoor
namespace Go.Proofs.YtfpfpnhpbnnmfadGreatDoor
open Go.RowKit
structure HasAt (w : World) (b o : Nat) (m : Img) : Prop where
  lt : b < w.heap.size
  live : ∀ n : Nat, n < 8 → w.cell? ⟨b, o + n * 5, none⟩ = some (.bool (m.live n))
  stamp : ∀ n : Nat, n < 8 → w.cell? ⟨b, o + n * 5 + 1, none⟩ = some (.int .i64 (m.stamp n))
  links : ∀ n : Nat, n < 8 → w.cell? ⟨b, o + n * 5 + 2, none⟩ = some (.int .i64 (m.links n))
  part : ∀ n p : Nat, n < 8 → p < 2 → w.cell? ⟨b, o + n * 5 + 3 + p, none⟩ = some (.int .i64 (m.part n p))
  name : ∀ d s : Nat, d < 3 → s < 4 → w.cell? ⟨b, o + 40 + d * 12 + s * 3, none⟩ = some (.string (m.name d s))
  ino : ∀ d s : Nat, d < 3 → s < 4 → w.cell? ⟨b, o + 40 + d * 12 + s * 3 + 1, none⟩ = some (.int .i64 (m.ino d s))
  est : ∀ d s : Nat, d < 3 → s < 4 → w.cell? ⟨b, o + 40 + d * 12 + s * 3 + 2, none⟩ = some (.int .i64 (m.est d s))
  of : ∀ x : Nat, x < 9 → w.cell? ⟨b, o + 76 + x * 2, none⟩ = some (.int .i64 (m.of x))
  text : ∀ x : Nat, x < 9 → w.cell? ⟨b, o + 76 + x * 2 + 1, none⟩ = some (.string (m.text x))
  small : ∀ d s : Nat, (m.name d s).size ≤ maxLen
  short : ∀ x : Nat, (m.text x).size ≤ maxLen
theorem HasAt.below {w w' : World} {b o : Nat} {m : Img} {B : Nat} (h : HasAt w b o m) (hb : Below B w w') (hB : b < B) : HasAt w' b o m := by
  have hc : ∀ o, w'.cell? ⟨b, o, none⟩ = w.cell? ⟨b, o, none⟩ := fun o => hb.cell (p := ⟨b, o, none⟩) hB
  have hs := hb.size
  have hl := h.lt
  exact ⟨by omega, fun n h1 => by rw [hc]; exact h.live n h1, fun n h1 => by rw [hc]; exact h.stamp n h1, fun n h1 => by rw [hc]; exact h.links n h1,
    fun n p h1 h2 => by rw [hc]; exact h.part n p h1 h2, fun d s h1 h2 => by rw [hc]; exact h.name d s h1 h2, fun d s h1 h2 => by rw [hc]; exact h.ino d s h1 h2,
    fun d s h1 h2 => by rw [hc]; exact h.est d s h1 h2, fun x h1 => by rw [hc]; exact h.of x h1, fun x h1 => by rw [hc]; exact h.text x h1, h.small, h.short⟩
theorem HasImg.at {w : World} {b : Nat} {m : Img} (h : HasImg w b m) : HasAt w b 0 m :=
  ⟨h.lt, fun n h1 => by rw [Nat.zero_add]; exact h.live n h1, fun n h1 => by rw [Nat.zero_add]; exact h.stamp n h1, fun n h1 => by rw [Nat.zero_add]; exact h.links n h1,
    fun n p h1 h2 => by rw [Nat.zero_add]; exact h.part n p h1 h2, fun d s h1 h2 => by rw [Nat.zero_add]; exact h.name d s h1 h2, fun d s h1 h2 => by rw [Nat.zero_add]; exact h.ino d s h1 h2,
    fun d s h1 h2 => by rw [Nat.zero_add]; exact h.est d s h1 h2, fun x h1 => by rw [Nat.zero_add]; exact h.of x h1, fun x h1 => by rw [Nat.zero_add]; exact h.text x h1, h.small, h.short⟩
end Go.Proofs.YtfpfpnhpbnnmfadGreatDoor
