/-
  What is mended: layer 6 as plain functions, and their laws. No Go in here.
-/
import Derived.Test.YtmlhalhjfcfagabDa
namespace Go.Proofs.Ytmlhalhjfcfagab
namespace Img
variable {m : Img}
theorem mholds_not {m : Img} {x : Nat} (hx : x < 9) (h : m.holds (x : Int) = false) {n p : Nat} (hn : n < 8) (hp : p < 2) (hl : m.live n = true) : m.part n p ≠ (x : Int) := by
  unfold holds at h
  have hD : isD (x : Int) = true := by simp [isD]; omega
  rw [hD, Bool.true_and, anyB_false] at h
  have := h n hn
  rw [hl, Bool.true_and] at this
  unfold hasPart at this
  rw [Bool.or_eq_false_iff] at this
  match p, hp with
  | 0, _ => simpa using this.1
  | 1, _ => simpa using this.2
/-! parts of two inodes, or of one, are apart -/
theorem mpart_ne {m : Img} (hm : m.check = 0) {n p k q : Nat} (hn : n < 8) (hp : p < 2) (hk : k < 8) (hq : q < 2) (hne : ¬ (n = k ∧ p = q)) (hl : m.live n = true) (hlk : m.live k = true) (hD : isD (m.part n p) = true) : m.part k q ≠ m.part n p := by
  have e1 : m.pa (2 * n + p) = m.part n p := by
    rw [pa_of_live (by rw [show (2 * n + p) / 2 = n by omega]; exact hl), show (2 * n + p) / 2 = n by omega, show (2 * n + p) % 2 = p by omega]
  have e2 : m.pa (2 * k + q) = m.part k q := by
    rw [pa_of_live (by rw [show (2 * k + q) / 2 = k by omega]; exact hlk), show (2 * k + q) / 2 = k by omega, show (2 * k + q) % 2 = q by omega]
  rw [← e1, ← e2]
  exact datas_ne (well_iff.1 hm).datas (by omega) (by omega) (by omega) (by rw [e1]; exact hD)
/-! another count -/
theorem mputLinks_check {m : Img} (hm : m.check = 0) {n : Nat} (hn : n < 8) (hl : m.live n = true) (v : Int) (hv : (m.refs n : Int) ≤ v) : (m.putIno n ⟨m.live n, m.stamp n, v, m.part n 0, m.part n 1⟩).check = 0 := by
  have ok := inode_parts_ok hm hn hl
  refine putIno_check hm _ (.inr ⟨hl, ok.1, hv, fun p hp => ?_⟩) (fun d' s' _ _ _ => ⟨hl, rfl⟩) (fun _ k hk hne hlk => stamps_ne (well_iff.1 hm).stamps hk hn hne hlk hl) (fun _ k q p hk hq hp hne hlk hD => ?_) (fun _ hD => ?_)
  · match p, hp with
    | 0, _ => exact ok.2.2 0 (by omega)
    | 1, _ => exact ok.2.2 1 (by omega)
  · match p, hp with
    | 0, _ => exact mpart_ne hm hn (by omega) hk hq (by omega) hl hlk hD
    | 1, _ => exact mpart_ne hm hn (by omega) hk hq (by omega) hl hlk hD
  · exact fun z => mpart_ne hm hn (show 0 < 2 by omega) hn (show 1 < 2 by omega) (by omega) hl hl hD z.symm
theorem nil_list : (⟨#[]⟩ : ByteArray).toList = [] := by decide +kernel
/-- does an inode go? -/
def goes (m : Img) (n : Nat) : Bool := m.live n && m.refs (n : Int) == 0
def dropTo (m : Img) : Nat → Img
  | 0 => m
  | n + 1 => if goes m n = true then (dropTo m n).putIno n Ino.none else dropTo m n
def other (m : Img) (n : Nat) : Bool := !(m.links n == (m.refs (n : Int) : Int))
def relink (m : Img) (n : Nat) : Img := m.putIno n ⟨m.live n, m.stamp n, (m.refs (n : Int) : Int), m.part n 0, m.part n 1⟩
def setTo (m : Img) : Nat → Img
  | 0 => m
  | n + 1 => if other m n = true then relink (setTo m n) n else setTo m n
def full (m : Img) (x : Nat) : Bool := !(m.of x == 0 && (m.text x).toList == [])
def lost (m : Img) (x : Nat) : Bool := full m x && !m.holds (x : Int)
def clearTo (m : Img) : Nat → Img
  | 0 => m
  | x + 1 => if lost m x = true then (clearTo m x).putData x 0 ⟨#[]⟩ else clearTo m x
def mend1 (m : Img) : Img := dropTo m 8
def mend2 (m : Img) : Img := setTo (mend1 m) 8
def mend (m : Img) : Img := clearTo (mend2 m) 9
def lostF (m : Img) : Nat := cnt (goes m) 8
def lostC (m : Img) : Nat := cnt (other (mend1 m)) 8
def lostD (m : Img) : Nat := cnt (lost (mend2 m)) 9
/-! what is dropped -/
theorem dropTo_dirs (m : Img) : ∀ k, (dropTo m k).name = m.name ∧ (dropTo m k).ino = m.ino ∧ (dropTo m k).est = m.est ∧ (dropTo m k).of = m.of ∧ (dropTo m k).text = m.text
  | 0 => ⟨rfl, rfl, rfl, rfl, rfl⟩
  | k + 1 => by
    have := dropTo_dirs m k
    unfold dropTo
    split
    · exact this
    · exact this
theorem dropTo_refs (m : Img) (k : Nat) (i : Int) : (dropTo m k).refs i = m.refs i := refs_of_dirs (dropTo_dirs m k).1 (dropTo_dirs m k).2.1 i
theorem dropTo_inode (m : Img) (n : Nat) : ∀ k, (dropTo m k).inode n = if n < k ∧ goes m n = true then Ino.none else m.inode n
  | 0 => by simp [dropTo]
  | k + 1 => by
    have ih := dropTo_inode m n k
    unfold dropTo
    by_cases hg : goes m k = true
    · rw [if_pos hg]
      by_cases e : n = k
      · subst e; rw [putIno_at, if_pos ⟨by omega, hg⟩]
      · rw [putIno_other _ _ e, ih]
        by_cases h : n < k ∧ goes m n = true
        · rw [if_pos h, if_pos ⟨by omega, h.2⟩]
        · rw [if_neg h, if_neg (by intro z; exact h ⟨by omega, z.2⟩)]
    · rw [if_neg hg, ih]
      by_cases e : n = k
      · subst e; rw [if_neg (by intro z; omega), if_neg (by intro z; exact hg z.2)]
      · by_cases h : n < k ∧ goes m n = true
        · rw [if_pos h, if_pos ⟨by omega, h.2⟩]
        · rw [if_neg h, if_neg (by intro z; exact h ⟨by omega, z.2⟩)]
theorem dropTo_check (hm : m.check = 0) : ∀ k, (dropTo m k).check = 0
  | 0 => hm
  | k + 1 => by
    have ih := dropTo_check hm k
    unfold dropTo
    by_cases hg : goes m k = true
    · rw [if_pos hg]
      refine putIno_check ih Ino.none (.inl rfl) (fun d s hd hs hl => ?_) (fun z => by cases z) (fun z => by cases z) (fun z => by cases z)
      have h0 : (dropTo m k).refs (k : Int) = 0 := by
        rw [dropTo_refs]; unfold goes at hg; simp at hg; exact hg.2
      have := refs_zero_iff.1 h0 d s hd hs
      rw [this] at hl; cases hl
    · rw [if_neg hg]; exact ih
/-! what is counted again -/
theorem relink_dirs (m : Img) (n : Nat) : (relink m n).name = m.name ∧ (relink m n).ino = m.ino ∧ (relink m n).est = m.est ∧ (relink m n).of = m.of ∧ (relink m n).text = m.text := ⟨rfl, rfl, rfl, rfl, rfl⟩
theorem setTo_dirs (m : Img) : ∀ k, (setTo m k).name = m.name ∧ (setTo m k).ino = m.ino ∧ (setTo m k).est = m.est ∧ (setTo m k).of = m.of ∧ (setTo m k).text = m.text
  | 0 => ⟨rfl, rfl, rfl, rfl, rfl⟩
  | k + 1 => by
    have := setTo_dirs m k
    unfold setTo
    split
    · exact this
    · exact this
theorem setTo_refs (m : Img) (k : Nat) (i : Int) : (setTo m k).refs i = m.refs i := refs_of_dirs (setTo_dirs m k).1 (setTo_dirs m k).2.1 i
def linked (m : Img) (n : Nat) : Ino := ⟨m.live n, m.stamp n, (m.refs (n : Int) : Int), m.part n 0, m.part n 1⟩
theorem relink_at (m : Img) (n : Nat) : (relink m n).inode n = linked m n := putIno_at _ _ _
theorem setTo_inode (m : Img) (n : Nat) : ∀ k, (setTo m k).inode n = if n < k then linked m n else m.inode n
  | 0 => by simp [setTo]
  | k + 1 => by
    have ih := setTo_inode m n k
    unfold setTo
    by_cases hg : other m k = true
    · rw [if_pos hg]
      by_cases e : n = k
      · subst e
        rw [relink_at, if_pos (by omega)]
        rw [if_neg (by omega)] at ih
        obtain ⟨g1, g2, g3, g4⟩ := inode_eq ih
        unfold linked
        rw [g1, g2, g4 0 (by omega), g4 1 (by omega), setTo_refs]
      · unfold relink
        rw [putIno_other _ _ e, ih]
        by_cases h : n < k
        · rw [if_pos h, if_pos (by omega)]
        · rw [if_neg h, if_neg (by omega)]
    · rw [if_neg hg, ih]
      by_cases e : n = k
      · subst e
        rw [if_neg (by omega), if_pos (by omega)]
        unfold other at hg
        have hl : m.links n = (m.refs (n : Int) : Int) := by simpa using hg
        unfold linked inode; rw [hl]
      · by_cases h : n < k
        · rw [if_pos h, if_pos (by omega)]
        · rw [if_neg h, if_neg (by omega)]
theorem free_links (hm : m.check = 0) {n : Nat} (hn : n < 8) (hl : m.live n = false) : other m n = false := by
  have h1 := inode_free_ok hm hn hl
  have h2 := dead_refs hm hl
  unfold other
  rw [h2]
  have : m.links n = 0 := by unfold inode at h1; injection h1
  rw [this]; rfl
theorem setTo_check (hm : m.check = 0) : ∀ k, k ≤ 8 → (setTo m k).check = 0
  | 0, _ => hm
  | k + 1, hk => by
    have ih := setTo_check hm k (by omega)
    unfold setTo
    by_cases hg : other m k = true
    · rw [if_pos hg]
      have hi := setTo_inode m k k
      rw [if_neg (by omega)] at hi
      obtain ⟨g1, g2, g3, g4⟩ := inode_eq hi
      have hl : (setTo m k).live k = true := by
        rw [g1]
        cases e : m.live k
        · rw [free_links hm (by omega) e] at hg; cases hg
        · rfl
      unfold relink
      exact mputLinks_check ih (by omega) hl _ (Int.le_refl _)
    · rw [if_neg hg]; exact ih
/-! data that are emptied -/
theorem clearTo_rest (m : Img) : ∀ k, (clearTo m k).live = m.live ∧ (clearTo m k).stamp = m.stamp ∧ (clearTo m k).links = m.links ∧ (clearTo m k).part = m.part ∧ (clearTo m k).name = m.name ∧ (clearTo m k).ino = m.ino ∧ (clearTo m k).est = m.est
  | 0 => ⟨rfl, rfl, rfl, rfl, rfl, rfl, rfl⟩
  | k + 1 => by
    have := clearTo_rest m k
    unfold clearTo
    split
    · exact this
    · exact this
theorem holds_rest {a b : Img} (h1 : a.live = b.live) (h2 : a.part = b.part) (x : Int) : a.holds x = b.holds x := by
  unfold holds hasPart; rw [h1, h2]
theorem clearTo_holds (m : Img) (k : Nat) (x : Int) : (clearTo m k).holds x = m.holds x := holds_rest (clearTo_rest m k).1 (clearTo_rest m k).2.2.2.1 x
theorem clearTo_data (m : Img) (x : Nat) : ∀ k, (clearTo m k).of x = (if x < k ∧ lost m x = true then 0 else m.of x) ∧ (clearTo m k).text x = (if x < k ∧ lost m x = true then ⟨#[]⟩ else m.text x)
  | 0 => by simp [clearTo]
  | k + 1 => by
    have ih := clearTo_data m x k
    unfold clearTo
    by_cases hg : lost m k = true
    · rw [if_pos hg]
      by_cases e : x = k
      · subst e
        rw [if_pos ⟨by omega, hg⟩, if_pos ⟨by omega, hg⟩]
        exact ⟨if_pos rfl, if_pos rfl⟩
      · show (if x = k then 0 else (clearTo m k).of x) = _ ∧ (if x = k then ⟨#[]⟩ else (clearTo m k).text x) = _
        rw [if_neg e, if_neg e, ih.1, ih.2]
        by_cases h : x < k ∧ lost m x = true
        · rw [if_pos h, if_pos h, if_pos ⟨by omega, h.2⟩, if_pos ⟨by omega, h.2⟩]; exact ⟨rfl, rfl⟩
        · rw [if_neg h, if_neg h, if_neg (by intro z; exact h ⟨by omega, z.2⟩), if_neg (by intro z; exact h ⟨by omega, z.2⟩)]; exact ⟨rfl, rfl⟩
    · rw [if_neg hg, ih.1, ih.2]
      by_cases e : x = k
      · subst e
        have h0 : ¬ (x < x ∧ lost m x = true) := by intro z; omega
        have h1 : ¬ (x < x + 1 ∧ lost m x = true) := by intro z; exact hg z.2
        rw [if_neg h0, if_neg h0, if_neg h1, if_neg h1]; exact ⟨rfl, rfl⟩
      · by_cases h : x < k ∧ lost m x = true
        · rw [if_pos h, if_pos h, if_pos ⟨by omega, h.2⟩, if_pos ⟨by omega, h.2⟩]; exact ⟨rfl, rfl⟩
        · rw [if_neg h, if_neg h, if_neg (by intro z; exact h ⟨by omega, z.2⟩), if_neg (by intro z; exact h ⟨by omega, z.2⟩)]; exact ⟨rfl, rfl⟩
theorem clearTo_check (hm : m.check = 0) : ∀ k, k ≤ 9 → (clearTo m k).check = 0
  | 0, _ => hm
  | k + 1, hk => by
    have ih := clearTo_check hm k (by omega)
    unfold clearTo
    by_cases hg : lost m k = true
    · rw [if_pos hg]
      refine putData_check ih 0 _ (fun n p hn hp hl hx => ?_)
      have hh : (clearTo m k).holds (k : Int) = false := by
        rw [clearTo_holds]; unfold lost at hg; simp at hg; exact hg.2
      exact absurd hx (mholds_not (by omega) hh hn hp hl)
    · rw [if_neg hg]; exact ih
/-! what is mended -/
theorem mend1_check (hm : m.check = 0) : (mend1 m).check = 0 := dropTo_check hm 8
theorem mend2_check (hm : m.check = 0) : (mend2 m).check = 0 := setTo_check (mend1_check hm) 8 (Nat.le_refl _)
theorem mend_check (hm : m.check = 0) : (mend m).check = 0 := clearTo_check (mend2_check hm) 9 (Nat.le_refl _)
theorem mend_dirs (m : Img) : (mend m).name = m.name ∧ (mend m).ino = m.ino ∧ (mend m).est = m.est := by
  obtain ⟨_, _, _, _, a1, a2, a3⟩ := clearTo_rest (mend2 m) 9
  obtain ⟨b1, b2, b3, _⟩ := setTo_dirs (mend1 m) 8
  obtain ⟨c1, c2, c3, _⟩ := dropTo_dirs m 8
  exact ⟨by unfold mend; rw [a1]; unfold mend2; rw [b1]; unfold mend1; rw [c1], by unfold mend; rw [a2]; unfold mend2; rw [b2]; unfold mend1; rw [c2], by unfold mend; rw [a3]; unfold mend2; rw [b3]; unfold mend1; rw [c3]⟩
theorem mend_refs (m : Img) (i : Int) : (mend m).refs i = m.refs i := refs_of_dirs (mend_dirs m).1 (mend_dirs m).2.1 i
theorem mend_inode (m : Img) {n : Nat} (hn : n < 8) : (mend m).inode n = if goes m n = true then ⟨false, 0, (m.refs (n : Int) : Int), -1, -1⟩ else linked m n := by
  obtain ⟨a1, a2, a3, a4, _⟩ := clearTo_rest (mend2 m) 9
  have e : (mend m).inode n = (mend2 m).inode n := by unfold mend inode; rw [a1, a2, a3, a4]
  have e1 := dropTo_inode m n 8
  rw [e]
  unfold mend2
  rw [setTo_inode, if_pos hn]
  by_cases hg : goes m n = true
  · rw [if_pos hg]
    rw [if_pos ⟨hn, hg⟩] at e1
    obtain ⟨g1, g2, g3, g4, g5⟩ := inode_is (show (mend1 m).inode n = ⟨false, 0, 0, -1, -1⟩ from e1)
    unfold linked
    rw [g1, g2, g4, g5, show (mend1 m).refs (n : Int) = m.refs (n : Int) from dropTo_refs m 8 _]
  · rw [if_neg hg]
    rw [if_neg (by intro z; exact hg z.2)] at e1
    obtain ⟨g1, g2, g3, g4⟩ := inode_eq (show (mend1 m).inode n = m.inode n from e1)
    unfold linked
    rw [g1, g2, g4 0 (by omega), g4 1 (by omega), show (mend1 m).refs (n : Int) = m.refs (n : Int) from dropTo_refs m 8 _]
theorem mend_ex (hm : m.check = 0) : Ex (mend m) := by
  refine ⟨mend_check hm, fun n hn hl => ?_⟩
  have h := mend_inode m hn
  by_cases hg : goes m n = true
  · rw [if_pos hg] at h
    have := (inode_is h).1
    rw [hl] at this; cases this
  · rw [if_neg hg] at h
    obtain ⟨g1, g2, g3, g4, g5⟩ := inode_is h
    rw [g3, mend_refs]
    refine ⟨rfl, ?_⟩
    rw [hl] at g1
    have g1' : m.live n = true := g1.symm
    unfold goes at hg
    rw [g1'] at hg
    have h0 : m.refs (n : Int) ≠ 0 := by simpa using hg
    show 1 ≤ ((m.refs (n : Int) : Nat) : Int)
    omega
end Img
end Go.Proofs.Ytmlhalhjfcfagab
