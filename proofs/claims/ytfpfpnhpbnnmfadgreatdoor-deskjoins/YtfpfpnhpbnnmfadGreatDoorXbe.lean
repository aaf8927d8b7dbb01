/-
  What is mended: layer 6 as plain functions, and their laws. No Go in here.
-/
import Derived.Test.YtfpfpnhpbnnmfadGreatDoorXad
import Derived.Test.YtfpfpnhpbnnmfadGreatDoorXah
namespace Go.Proofs.YtfpfpnhpbnnmfadGreatDoor
namespace Img
variable {m : Img}
theorem mholds_not {m : Img} {x : Nat} (hx : x < 9) (h : m.holds (x : Int) = false) {n p : Nat} (hn : n < 8) (hp : p < 2) (hl : m.live n = true) : m.part n p ≠ (x : Int) := by
  unfold holds at h
  have hD : isD (x : Int) = true := by simp [isD]; omega
  rw [hD, Bool.true_and, anyB_false] at h
  have := h n hn
  rw [hl, Bool.true_and] at this
  unfold hasPart at this
  rw [Bool.or_eq_false_iff] at this
  match p, hp with
  | 0, _ => simpa using this.1
  | 1, _ => simpa using this.2
/-! parts of two inodes, or of one, are apart -/
theorem mpart_ne {m : Img} (hm : m.check = 0) {n p k q : Nat} (hn : n < 8) (hp : p < 2) (hk : k < 8) (hq : q < 2) (hne : ¬ (n = k ∧ p = q)) (hl : m.live n = true) (hlk : m.live k = true) (hD : isD (m.part n p) = true) : m.part k q ≠ m.part n p := by
  have e1 : m.pa (2 * n + p) = m.part n p := by
    rw [pa_of_live (by rw [show (2 * n + p) / 2 = n by omega]; exact hl), show (2 * n + p) / 2 = n by omega, show (2 * n + p) % 2 = p by omega]
  have e2 : m.pa (2 * k + q) = m.part k q := by
    rw [pa_of_live (by rw [show (2 * k + q) / 2 = k by omega]; exact hlk), show (2 * k + q) / 2 = k by omega, show (2 * k + q) % 2 = q by omega]
  rw [← e1, ← e2]
  exact datas_ne (well_iff.1 hm).datas (by omega) (by omega) (by omega) (by rw [e1]; exact hD)
/-! another count -/
theorem mputLinks_check {m : Img} (hm : m.check = 0) {n : Nat} (hn : n < 8) (hl : m.live n = true) (v : Int) (hv : (m.refs n : Int) ≤ v) : (m.putIno n ⟨m.live n, m.stamp n, v, m.part n 0, m.part n 1⟩).check = 0 := by
  have ok := inode_parts_ok hm hn hl
  refine putIno_check hm _ (.inr ⟨hl, ok.1, hv, fun p hp => ?_⟩) (fun d' s' _ _ _ => ⟨hl, rfl⟩) (fun _ k hk hne hlk => stamps_ne (well_iff.1 hm).stamps hk hn hne hlk hl) (fun _ k q p hk hq hp hne hlk hD => ?_) (fun _ hD => ?_)
  · match p, hp with
    | 0, _ => exact ok.2.2 0 (by omega)
    | 1, _ => exact ok.2.2 1 (by omega)
  · match p, hp with
    | 0, _ => exact mpart_ne hm hn (by omega) hk hq (by omega) hl hlk hD
    | 1, _ => exact mpart_ne hm hn (by omega) hk hq (by omega) hl hlk hD
  · exact fun z => mpart_ne hm hn (show 0 < 2 by omega) hn (show 1 < 2 by omega) (by omega) hl hl hD z.symm
theorem nil_list : (⟨#[]⟩ : ByteArray).toList = [] := by decide +kernel
/-- does an inode go? -/
def goes (m : Img) (n : Nat) : Bool := m.live n && m.refs (n : Int) == 0
def dropTo (m : Img) : Nat → Img
  | 0 => m
  | n + 1 => if goes m n = true then (dropTo m n).putIno n Ino.none else dropTo m n
def other (m : Img) (n : Nat) : Bool := !(m.links n == (m.refs (n : Int) : Int))
def relink (m : Img) (n : Nat) : Img := m.putIno n ⟨m.live n, m.stamp n, (m.refs (n : Int) : Int), m.part n 0, m.part n 1⟩
def setTo (m : Img) : Nat → Img
  | 0 => m
  | n + 1 => if other m n = true then relink (setTo m n) n else setTo m n
def full (m : Img) (x : Nat) : Bool := !(m.of x == 0 && (m.text x).toList == [])
def lost (m : Img) (x : Nat) : Bool := full m x && !m.holds (x : Int)
def clearTo (m : Img) : Nat → Img
  | 0 => m
  | x + 1 => if lost m x = true then (clearTo m x).putData x 0 ⟨#[]⟩ else clearTo m x
def mend1 (m : Img) : Img := dropTo m 8
def mend2 (m : Img) : Img := setTo (mend1 m) 8
def mend (m : Img) : Img := clearTo (mend2 m) 9
def lostF (m : Img) : Nat := cnt (goes m) 8
def lostC (m : Img) : Nat := cnt (other (mend1 m)) 8
def lostD (m : Img) : Nat := cnt (lost (mend2 m)) 9
/-! what is dropped -/
theorem dropTo_dirs (m : Img) : ∀ k, (dropTo m k).name = m.name ∧ (dropTo m k).ino = m.ino ∧ (dropTo m k).est = m.est ∧ (dropTo m k).of = m.of ∧ (dropTo m k).text = m.text
  | 0 => ⟨rfl, rfl, rfl, rfl, rfl⟩
  | k + 1 => by
    have := dropTo_dirs m k
    unfold dropTo
    split
    · exact this
    · exact this
theorem dropTo_refs (m : Img) (k : Nat) (i : Int) : (dropTo m k).refs i = m.refs i := refs_of_dirs (dropTo_dirs m k).1 (dropTo_dirs m k).2.1 i
theorem dropTo_inode (m : Img) (n : Nat) : ∀ k, (dropTo m k).inode n = if n < k ∧ goes m n = true then Ino.none else m.inode n
  | 0 => by simp [dropTo]
  | k + 1 => by
    have ih := dropTo_inode m n k
    unfold dropTo
    by_cases hg : goes m k = true
    · rw [if_pos hg]
      by_cases e : n = k
      · subst e; rw [putIno_at, if_pos ⟨by omega, hg⟩]
      · rw [putIno_other _ _ e, ih]
        by_cases h : n < k ∧ goes m n = true
        · rw [if_pos h, if_pos ⟨by omega, h.2⟩]
        · rw [if_neg h, if_neg (by intro z; exact h ⟨by omega, z.2⟩)]
    · rw [if_neg hg, ih]
      by_cases e : n = k
      · subst e; rw [if_neg (by intro z; omega), if_neg (by intro z; exact hg z.2)]
      · by_cases h : n < k ∧ goes m n = true
        · rw [if_pos h, if_pos ⟨by omega, h.2⟩]
        · rw [if_neg h, if_neg (by intro z; exact h ⟨by omega, z.2⟩)]
theorem dropTo_check (hm : m.check = 0) : ∀ k, (dropTo m k).check = 0
  | 0 => hm
  | k + 1 => by
    have ih := dropTo_check hm k
    unfold dropTo
    by_cases hg : goes m k = true
    · rw [if_pos hg]
      refine putIno_check ih Ino.none (.inl rfl) (fun d s hd hs hl => ?_) (fun z => by cases z) (fun z => by cases z) (fun z => by cases z)
      have h0 : (dropTo m k).refs (k : Int) = 0 := by
        rw [dropTo_refs]; unfold goes at hg; simp at hg; exact hg.2
      have := refs_zero_iff.1 h0 d s hd hs
      rw [this] at hl; cases hl
    · rw [if_neg hg]; exact ih
/-! what is counted again -/
theorem setTo_dirs (m : Img) : ∀ k, (setTo m k).name = m.name ∧ (setTo m k).ino = m.ino ∧ (setTo m k).est = m.est ∧ (setTo m k).of = m.of ∧ (setTo m k).text = m.text
  | 0 => ⟨rfl, rfl, rfl, rfl, rfl⟩
  | k + 1 => by
    have := setTo_dirs m k
    unfold setTo
    split
    · exact this
    · exact this
theorem setTo_refs (m : Img) (k : Nat) (i : Int) : (setTo m k).refs i = m.refs i := refs_of_dirs (setTo_dirs m k).1 (setTo_dirs m k).2.1 i
def lnkd (m : Img) (n : Nat) : Ino := ⟨m.live n, m.stamp n, (m.refs (n : Int) : Int), m.part n 0, m.part n 1⟩
theorem relink_at (m : Img) (n : Nat) : (relink m n).inode n = lnkd m n := putIno_at _ _ _
theorem setTo_inode (m : Img) (n : Nat) : ∀ k, (setTo m k).inode n = if n < k then lnkd m n else m.inode n
  | 0 => by simp [setTo]
  | k + 1 => by
    have ih := setTo_inode m n k
    unfold setTo
    by_cases hg : other m k = true
    · rw [if_pos hg]
      by_cases e : n = k
      · subst e
        rw [relink_at, if_pos (by omega)]
        rw [if_neg (by omega)] at ih
        obtain ⟨g1, g2, g3, g4⟩ := inode_eq ih
        unfold lnkd
        rw [g1, g2, g4 0 (by omega), g4 1 (by omega), setTo_refs]
      · unfold relink
        rw [putIno_other _ _ e, ih]
        by_cases h : n < k
        · rw [if_pos h, if_pos (by omega)]
        · rw [if_neg h, if_neg (by omega)]
    · rw [if_neg hg, ih]
      by_cases e : n = k
      · subst e
        rw [if_neg (by omega), if_pos (by omega)]
        unfold other at hg
        have hl : m.links n = (m.refs (n : Int) : Int) := by simpa using hg
        unfold lnkd inode; rw [hl]
      · by_cases h : n < k
        · rw [if_pos h, if_pos (by omega)]
        · rw [if_neg h, if_neg (by omega)]
theorem free_links (hm : m.check = 0) {n : Nat} (hn : n < 8) (hl : m.live n = false) : other m n = false := by
  have h1 := inode_free_ok hm hn hl
  have h2 := dead_refs hm hl
  unfold other
  rw [h2]
  have : m.links n = 0 := by unfold inode at h1; injection h1
  rw [this]; rfl
theorem setTo_check (hm : m.check = 0) : ∀ k, k ≤ 8 → (setTo m k).check = 0
  | 0, _ => hm
  | k + 1, hk => by
    have ih := setTo_check hm k (by omega)
    unfold setTo
    by_cases hg : other m k = true
    · rw [if_pos hg]
      have hi := setTo_inode m k k
      rw [if_neg (by omega)] at hi
      obtain ⟨g1, g2, g3, g4⟩ := inode_eq hi
      have hl : (setTo m k).live k = true := by
        rw [g1]
        cases e : m.live k
        · rw [free_links hm (by omega) e] at hg; cases hg
        · rfl
      unfold relink
      exact mputLinks_check ih (by omega) hl _ (Int.le_refl _)
    · rw [if_neg hg]; exact ih
/-! data that are emptied -/
theorem clearTo_rest (m : Img) : ∀ k, (clearTo m k).live = m.live ∧ (clearTo m k).stamp = m.stamp ∧ (clearTo m k).links = m.links ∧ (clearTo m k).part = m.part ∧ (clearTo m k).name = m.name ∧ (clearTo m k).ino = m.ino ∧ (clearTo m k).est = m.est
  | 0 => ⟨rfl, rfl, rfl, rfl, rfl, rfl, rfl⟩
  | k + 1 => by
    have := clearTo_rest m k
    unfold clearTo
    split
    · exact this
    · exact this
theorem holds_rest {a b : Img} (h1 : a.live = b.live) (h2 : a.part = b.part) (x : Int) : a.holds x = b.holds x := by
  unfold holds hasPart; rw [h1, h2]
theorem clearTo_holds (m : Img) (k : Nat) (x : Int) : (clearTo m k).holds x = m.holds x := holds_rest (clearTo_rest m k).1 (clearTo_rest m k).2.2.2.1 x
theorem clearTo_data (m : Img) (x : Nat) : ∀ k, (clearTo m k).of x = (if x < k ∧ lost m x = true then 0 else m.of x) ∧ (clearTo m k).text x = (if x < k ∧ lost m x = true then ⟨#[]⟩ else m.text x)
  | 0 => by simp [clearTo]
  | k + 1 => by
    have ih := clearTo_data m x k
    unfold clearTo
    by_cases hg : lost m k = true
    · rw [if_pos hg]
      by_cases e : x = k
      · subst e
        rw [if_pos ⟨by omega, hg⟩, if_pos ⟨by omega, hg⟩]
        exact ⟨if_pos rfl, if_pos rfl⟩
      · show (if x = k then 0 else (clearTo m k).of x) = _ ∧ (if x = k then ⟨#[]⟩ else (clearTo m k).text x) = _
        rw [if_neg e, if_neg e, ih.1, ih.2]
        by_cases h : x < k ∧ lost m x = true
        · rw [if_pos h, if_pos h, if_pos ⟨by omega, h.2⟩, if_pos ⟨by omega, h.2⟩]; exact ⟨rfl, rfl⟩
        · rw [if_neg h, if_neg h, if_neg (by intro z; exact h ⟨by omega, z.2⟩), if_neg (by intro z; exact h ⟨by omega, z.2⟩)]; exact ⟨rfl, rfl⟩
    · rw [if_neg hg, ih.1, ih.2]
      by_cases e : x = k
      · subst e
        have h0 : ¬ (x < x ∧ lost m x = true) := by intro z; omega
        have h1 : ¬ (x < x + 1 ∧ lost m x = true) := by intro z; exact hg z.2
        rw [if_neg h0, if_neg h0, if_neg h1, if_neg h1]; exact ⟨rfl, rfl⟩
      · by_cases h : x < k ∧ lost m x = true
        · rw [if_pos h, if_pos h, if_pos ⟨by omega, h.2⟩, if_pos ⟨by omega, h.2⟩]; exact ⟨rfl, rfl⟩
        · rw [if_neg h, if_neg h, if_neg (by intro z; exact h ⟨by omega, z.2⟩), if_neg (by intro z; exact h ⟨by omega, z.2⟩)]; exact ⟨rfl, rfl⟩
theorem clearTo_check (hm : m.check = 0) : ∀ k, k ≤ 9 → (clearTo m k).check = 0
  | 0, _ => hm
  | k + 1, hk => by
    have ih := clearTo_check hm k (by omega)
    unfold clearTo
    by_cases hg : lost m k = true
    · rw [if_pos hg]
      refine putData_check ih 0 _ (fun n p hn hp hl hx => ?_)
      have hh : (clearTo m k).holds (k : Int) = false := by
        rw [clearTo_holds]; unfold lost at hg; simp at hg; exact hg.2
      exact absurd hx (mholds_not (by omega) hh hn hp hl)
    · rw [if_neg hg]; exact ih
/-! what is mended -/
theorem mend1_check (hm : m.check = 0) : (mend1 m).check = 0 := dropTo_check hm 8
theorem mend2_check (hm : m.check = 0) : (mend2 m).check = 0 := setTo_check (mend1_check hm) 8 (Nat.le_refl _)
theorem mend_check (hm : m.check = 0) : (mend m).check = 0 := clearTo_check (mend2_check hm) 9 (Nat.le_refl _)
theorem mend_dirs (m : Img) : (mend m).name = m.name ∧ (mend m).ino = m.ino ∧ (mend m).est = m.est := by
  obtain ⟨_, _, _, _, a1, a2, a3⟩ := clearTo_rest (mend2 m) 9
  obtain ⟨b1, b2, b3, _⟩ := setTo_dirs (mend1 m) 8
  obtain ⟨c1, c2, c3, _⟩ := dropTo_dirs m 8
  exact ⟨by unfold mend; rw [a1]; unfold mend2; rw [b1]; unfold mend1; rw [c1], by unfold mend; rw [a2]; unfold mend2; rw [b2]; unfold mend1; rw [c2], by unfold mend; rw [a3]; unfold mend2; rw [b3]; unfold mend1; rw [c3]⟩
theorem mend_refs (m : Img) (i : Int) : (mend m).refs i = m.refs i := refs_of_dirs (mend_dirs m).1 (mend_dirs m).2.1 i
theorem mend_inode (m : Img) {n : Nat} (hn : n < 8) : (mend m).inode n = if goes m n = true then ⟨false, 0, (m.refs (n : Int) : Int), -1, -1⟩ else lnkd m n := by
  obtain ⟨a1, a2, a3, a4, _⟩ := clearTo_rest (mend2 m) 9
  have e : (mend m).inode n = (mend2 m).inode n := by unfold mend inode; rw [a1, a2, a3, a4]
  have e1 := dropTo_inode m n 8
  rw [e]
  unfold mend2
  rw [setTo_inode, if_pos hn]
  by_cases hg : goes m n = true
  · rw [if_pos hg]
    rw [if_pos ⟨hn, hg⟩] at e1
    obtain ⟨g1, g2, g3, g4, g5⟩ := inode_is (show (mend1 m).inode n = ⟨false, 0, 0, -1, -1⟩ from e1)
    unfold lnkd
    rw [g1, g2, g4, g5, show (mend1 m).refs (n : Int) = m.refs (n : Int) from dropTo_refs m 8 _]
  · rw [if_neg hg]
    rw [if_neg (by intro z; exact hg z.2)] at e1
    obtain ⟨g1, g2, g3, g4⟩ := inode_eq (show (mend1 m).inode n = m.inode n from e1)
    unfold lnkd
    rw [g1, g2, g4 0 (by omega), g4 1 (by omega), show (mend1 m).refs (n : Int) = m.refs (n : Int) from dropTo_refs m 8 _]
theorem mend_ex (hm : m.check = 0) : Ex (mend m) := by
  refine ⟨mend_check hm, fun n hn hl => ?_⟩
  have h := mend_inode m hn
  by_cases hg : goes m n = true
  · rw [if_pos hg] at h
    have := (inode_is h).1
    rw [hl] at this; cases this
  · rw [if_neg hg] at h
    obtain ⟨g1, g2, g3, g4, g5⟩ := inode_is h
    rw [g3, mend_refs]
    refine ⟨rfl, ?_⟩
    rw [hl] at g1
    have g1' : m.live n = true := g1.symm
    unfold goes at hg
    rw [g1'] at hg
    have h0 : m.refs (n : Int) ≠ 0 := by simpa using hg
    show 1 ≤ ((m.refs (n : Int) : Nat) : Int)
    omega
end Img
end Go.Proofs.YtfpfpnhpbnnmfadGreatDoor
namespace Go.Proofs.YtfpfpnhpbnnmfadGreatDoor
open Go.RowKit
theorem IsImg.mLinks {cs : Array Value} {m : Img} (h : IsImg cs m) {n : Nat} (hn : n < 8) (v : Int) : IsImg (cs.setIfInBounds (n * 5 + 2) (.int .i64 v)) (m.putIno n ⟨m.live n, m.stamp n, v, m.part n 0, m.part n 1⟩) := by
  have e : cs.setIfInBounds (n * 5 + 2) (.int .i64 v) = put5v cs n ⟨m.live n, m.stamp n, v, m.part n 0, m.part n 1⟩ := by
    have hs := h.size
    refine Array.ext_getElem? fun j => ?_
    unfold put5v
    rw [set5_get (by omega), Array.getElem?_setIfInBounds]
    have h0 := h.live n hn
    have h1 := h.stamp n hn
    have h3 := h.part n 0 hn (by omega)
    have h4 := h.part n 1 hn (by omega)
    by_cases j0 : j = n * 5
    · subst j0; rw [if_neg (by omega), if_pos rfl, h0]
    · by_cases j1 : j = n * 5 + 1
      · subst j1; rw [if_neg (by omega), if_neg (by omega), if_pos rfl, h1]
      · by_cases j2 : j = n * 5 + 2
        · subst j2; rw [if_pos rfl, if_pos (by omega), if_neg (by omega), if_neg (by omega), if_pos rfl]
        · by_cases j3 : j = n * 5 + 3
          · subst j3; rw [if_neg (by omega), if_neg (by omega), if_neg (by omega), if_neg (by omega), if_pos rfl]; exact h3
          · by_cases j4 : j = n * 5 + 4
            · subst j4; rw [if_neg (by omega), if_neg (by omega), if_neg (by omega), if_neg (by omega), if_neg (by omega), if_pos rfl]; exact h4
            · rw [if_neg (by omega), if_neg j0, if_neg j1, if_neg j2, if_neg j3, if_neg j4]
  rw [e]
  exact h.putIno hn _
/-- one block is another image now; the others that were there are as they were -/
structure Mu (w w' : World) (g : Nat) (c : Array Value) : Prop where
  below : ∀ B, B ≤ g → B ≤ w.heap.size → Below B w w'
  row : w'.heap[g]? = some (.cells c 78)
  lt : g < w.heap.size
  old : ∀ j, j < w.heap.size → j ≠ g → w'.heap[j]? = w.heap[j]?
section
variable {w w1 w2 : World} {g : Nat} {c c' : Array Value} {m : Img}
theorem Mu.start (h : w.heap[g]? = some (.cells c 78)) : Mu w w g c := ⟨fun _ _ _ => Below.refl _ _, h, (Array.getElem?_eq_some_iff.1 h).1, fun _ _ _ => rfl⟩
theorem Mu.size (h : Mu w w1 g c) : w.heap.size ≤ w1.heap.size := (h.below 0 (Nat.zero_le _) (Nat.zero_le _)).size
theorem Mu.call (h : Mu w w1 g c) (hb : Below w1.heap.size w1 w2) : Mu w w2 g c :=
  ⟨fun B h1 h2 => (h.below B h1 h2).trans (hb.mono (Nat.le_trans h2 h.size)), by rw [hb.block _ (Nat.lt_of_lt_of_le h.lt h.size)]; exact h.row, h.lt, fun j hj hne => by rw [hb.block _ (Nat.lt_of_lt_of_le hj h.size), h.old j hj hne]⟩
theorem Mu.set (h : Mu w w1 g c) (i : Nat) (v : Value) : Mu w (w1.setCell ⟨g, i, none⟩ v) g (c.setIfInBounds i v) :=
  ⟨fun B h1 h2 => (h.below B h1 h2).setCell (by exact h1) _, heap_setCell_same _ _ _ _ _ _ h.row, h.lt, fun j hj hne => by rw [heap_setCell_other _ _ _ _ (by exact hne), h.old j hj hne]⟩
theorem Mu.cell (h : Mu w w1 g c) {i : Nat} (hi : i < c.size) : ∃ v, w1.cell? ⟨g, i, none⟩ = some v := ⟨_, by rw [cell_of_row _ _ _ _ _ _ h.row]; exact Array.getElem?_eq_getElem hi⟩
theorem Mu.frozen (h : Mu w w1 g c) (i : Nat) : w1.frozen? ⟨g, i, none⟩ = false := frozen_of_row _ _ _ _ _ h.row
theorem Mu.has (h : Mu w w1 g c) (hi : IsImg c m) : HasImg w1 g m := has_of_row h.row hi
end
namespace Img
variable {m : Img} {n : Nat}
theorem dropTo_yes (h : goes m n = true) : dropTo m (n + 1) = (dropTo m n).putIno n Ino.none := if_pos h
theorem dropTo_no (h : goes m n = false) : dropTo m (n + 1) = dropTo m n := if_neg (by rw [h]; simp)
theorem setTo_yes (h : other m n = true) : setTo m (n + 1) = relink (setTo m n) n := if_pos h
theorem setTo_no (h : other m n = false) : setTo m (n + 1) = setTo m n := if_neg (by rw [h]; simp)
theorem clearTo_yes (h : lost m n = true) : clearTo m (n + 1) = (clearTo m n).putData n 0 ⟨#[]⟩ := if_pos h
theorem clearTo_no (h : lost m n = false) : clearTo m (n + 1) = clearTo m n := if_neg (by rw [h]; simp)
theorem dropTo_live (m : Img) (n : Nat) : (dropTo m n).live n = m.live n := by
  have := dropTo_inode m n n
  rw [if_neg (by intro z; omega)] at this
  exact (inode_eq this).1
theorem setTo_links (m : Img) (n : Nat) : (setTo m n).links n = m.links n := by
  have := setTo_inode m n n
  rw [if_neg (by omega)] at this
  exact (inode_eq this).2.2.1
theorem clearTo_at (m : Img) (n : Nat) : (clearTo m n).of n = m.of n ∧ (clearTo m n).text n = m.text n := by
  have := clearTo_data m n n
  rw [if_neg (by intro z; omega), if_neg (by intro z; omega)] at this
  exact this
end Img
set_option maxRecDepth 100000 in
set_option maxHeartbeats 2000000 in
theorem drop_any (b : Nat) (m : Img) (w : World) (hm : Row w b m) :
    Calls Tryz.prog 145 #[.pointer (some ⟨b, 0, none⟩)] w fun e w' => e = .returned (.int .i64 (Img.lostF m : Nat)) ∧ ∃ c, Mu w w' b c ∧ IsImg c (Img.mend1 m) := by
  obtain ⟨c0, r0, i0⟩ := hm
  have M0 := hide (Mu.start r0)
  have hz := i0.size
  go_enter Tryz.func145, Tryz.ntmps145
  go_wp2_with fail
  go_loopw [3, 5] (fun ct i wr => ∃ kk : Nat, kk ≤ 8 ∧ i = .int .i64 kk ∧ ct = .int .i64 (Img.cnt (Img.goes m) kk : Nat) ∧ ∃ c1, Hid (Mu w wr b c1) ∧ Hid (IsImg c1 (Img.dropTo m kk))) (fun _ i _ => 8 - (intOf i).toNat)
  case atStart => exact ⟨0, by omega, rfl, rfl, c0, M0, hide i0⟩
  case round =>
    clear M0
    obtain ⟨kk, hk, rfl, rfl, c1, HM, HI⟩ := hrel
    have hct := Img.cnt_le (Img.goes m) kk
    by_cases hlt : kk < 8
    · have t8 : decide ((kk : Int) < 8) = true := by simp; omega
      have jz : (kk : Int) < 8 := by omega
      have hl := ((unhide HM).has (unhide HI)).live kk hlt
      rw [Img.dropTo_live] at hl
      cases hv : m.live kk <;> rw [hv] at hl
      · have hg : Img.goes m kk = false := by unfold Img.goes; rw [hv]; rfl
        have H := hide (Img.cnt_no hg)
        have HD := hide (Img.dropTo_no hg)
        clear hg hv
        go_wp2_with fail
        go_roundw
        case rel => exact ⟨kk + 1, by omega, by go_num, by rw [unhide H], c1, HM, hide (by rw [unhide HD]; exact unhide HI)⟩
        case measure => simp [intOf]; omega
      · have RF := hide (refs_any b (Img.dropTo m kk) (kk : Int) wr ((unhide HM).has (unhide HI)))
        rw [Img.dropTo_refs] at RF
        by_cases hr : m.refs (kk : Int) = 0
        · have hg : Img.goes m kk = true := by unfold Img.goes; rw [hv, hr]; rfl
          have H := hide (Img.cnt_yes hg)
          have HD := hide (Img.dropTo_yes hg)
          rw [hr] at RF
          clear hg hv hr
          go_wp2_with fail
          refine (unhide RF).mono ?_
          rintro e wq ⟨rfl, e9⟩
          rw [e9]
          clear e9 wq RF
          have HMd := hide ((unhide HM).call (Below.refl _ _).drew)
          have h1 := (unhide HI).size
          have hI := hide ((unhide HI).putIno (n := kk) hlt Ino.none)
          clear hl
          go_wp2_with fail
          go_region_with (go_at_call 101; refine (free_any _).mono ?_; rintro e w1 ⟨rfl, hb1⟩; have M4 := hide ((unhide HMd).call hb1); obtain ⟨v0, f0⟩ := (unhide M4).cell (i := kk * 5) (by omega); obtain ⟨v1, f1⟩ := (unhide M4).cell (i := kk * 5 + 1) (by omega); obtain ⟨v2, f2⟩ := (unhide M4).cell (i := kk * 5 + 1 + 1) (by omega); obtain ⟨v3, f3⟩ := (unhide M4).cell (i := kk * 5 + 1 + 1 + 1) (by omega); obtain ⟨v4, f4⟩ := (unhide M4).cell (i := kk * 5 + 1 + 1 + 1 + 1) (by omega); have fz := (unhide M4).frozen; clear hb1)
          all_goals
            go_wp2_with fail
            go_roundw
            case rel => exact ⟨kk + 1, by omega, by go_num, by rw [unhide H]; go_num, _, hide ((((((unhide M4).set _ _).set _ _).set _ _).set _ _).set _ _), hide (by rw [unhide HD]; exact unhide hI)⟩
            case measure => simp [intOf]; omega
        · have hg : Img.goes m kk = false := by unfold Img.goes; rw [hv]; simpa using hr
          have H := hide (Img.cnt_no hg)
          have HD := hide (Img.dropTo_no hg)
          have hq : (((m.refs (kk : Int) : Nat) : Int) == 0) = false := by simpa using hr
          generalize ((m.refs (kk : Int) : Nat) : Int) = rr at RF hq
          clear hg hv hr
          go_wp2_with fail
          refine (unhide RF).mono ?_
          rintro e wq ⟨rfl, e9⟩
          rw [e9]
          clear e9 wq RF
          go_wp2_with fail
          go_roundw
          case rel => exact ⟨kk + 1, by omega, by go_num, by rw [unhide H], c1, HM, hide (by rw [unhide HD]; exact unhide HI)⟩
          case measure => simp [intOf]; omega
    · have e : kk = 8 := by omega
      subst e
      go_wp2_with fail
      go_ret
      exact ⟨rfl, c1, unhide HM, unhide HI⟩
set_option maxRecDepth 100000 in
set_option maxHeartbeats 2000000 in
theorem set_any (b : Nat) (m : Img) (w : World) (hm : Row w b m) :
    Calls Tryz.prog 146 #[.pointer (some ⟨b, 0, none⟩)] w fun e w' => e = .returned (.int .i64 (Img.cnt (Img.other m) 8 : Nat)) ∧ ∃ c, Mu w w' b c ∧ IsImg c (Img.setTo m 8) := by
  obtain ⟨c0, r0, i0⟩ := hm
  have M0 := hide (Mu.start r0)
  have hz := i0.size
  go_enter Tryz.func146, Tryz.ntmps146
  go_wp2_with fail
  go_loopw [3, 6] (fun ct i wr => ∃ kk : Nat, kk ≤ 8 ∧ i = .int .i64 kk ∧ ct = .int .i64 (Img.cnt (Img.other m) kk : Nat) ∧ ∃ c1, Hid (Mu w wr b c1) ∧ Hid (IsImg c1 (Img.setTo m kk))) (fun _ i _ => 8 - (intOf i).toNat)
  case atStart => exact ⟨0, by omega, rfl, rfl, c0, M0, hide i0⟩
  case round =>
    clear M0
    obtain ⟨kk, hk, rfl, rfl, c1, HM, HI⟩ := hrel
    have hct := Img.cnt_le (Img.other m) kk
    by_cases hlt : kk < 8
    · have t8 : decide ((kk : Int) < 8) = true := by simp; omega
      have jz : (kk : Int) < 8 := by omega
      have hl := ((unhide HM).has (unhide HI)).links kk hlt
      rw [Img.setTo_links] at hl
      have RF := hide (refs_any b (Img.setTo m kk) (kk : Int) wr ((unhide HM).has (unhide HI)))
      rw [Img.setTo_refs] at RF
      cases hg : Img.other m kk
      · have H := hide (Img.cnt_no hg)
        have HD := hide (Img.setTo_no hg)
        have hq : (m.links kk != (m.refs (kk : Int) : Nat)) = false := by unfold Img.other at hg; simpa [bne] using hg
        generalize ((m.refs (kk : Int) : Nat) : Int) = rr at RF hq
        clear hg
        go_wp2_with fail
        refine (unhide RF).mono ?_
        rintro e wq ⟨rfl, e9⟩
        rw [e9]
        clear e9 wq RF
        go_wp2_with fail
        go_roundw
        case rel => exact ⟨kk + 1, by omega, by go_num, by rw [unhide H], c1, HM, hide (by rw [unhide HD]; exact unhide HI)⟩
        case measure => simp [intOf]; omega
      · have H := hide (Img.cnt_yes hg)
        have HD := hide (Img.setTo_yes hg)
        have hq : (m.links kk != (m.refs (kk : Int) : Nat)) = true := by unfold Img.other at hg; simpa [bne] using hg
        have hI := hide ((unhide HI).mLinks (n := kk) hlt (m.refs (kk : Int) : Nat))
        have e0 : Img.relink (Img.setTo m kk) kk = (Img.setTo m kk).putIno kk ⟨(Img.setTo m kk).live kk, (Img.setTo m kk).stamp kk, (m.refs (kk : Int) : Nat), (Img.setTo m kk).part kk 0, (Img.setTo m kk).part kk 1⟩ := by unfold Img.relink; rw [Img.setTo_refs]
        rw [← e0] at hI
        clear e0
        generalize ((m.refs (kk : Int) : Nat) : Int) = rr at RF hq hI
        have fz := (unhide HM).frozen
        clear hg
        go_wp2_with fail
        refine (unhide RF).mono ?_
        rintro e wq ⟨rfl, e9⟩
        rw [e9]
        clear e9 wq RF
        go_wp2_with fail
        go_roundw
        case rel => exact ⟨kk + 1, by omega, by go_num, by rw [unhide H]; go_num, _, hide ((unhide HM).set _ _), hide (by rw [unhide HD]; exact unhide hI)⟩
        case measure => simp [intOf]; omega
    · have e : kk = 8 := by omega
      subst e
      go_wp2_with fail
      go_ret
      exact ⟨rfl, c1, unhide HM, unhide HI⟩
set_option maxRecDepth 100000 in
set_option maxHeartbeats 2000000 in
theorem clear_any (b : Nat) (m : Img) (w : World) (hm : Row w b m) :
    Calls Tryz.prog 147 #[.pointer (some ⟨b, 0, none⟩)] w fun e w' => e = .returned (.int .i64 (Img.cnt (Img.lost m) 9 : Nat)) ∧ ∃ c, Mu w w' b c ∧ IsImg c (Img.clearTo m 9) := by
  obtain ⟨c0, r0, i0⟩ := hm
  have M0 := hide (Mu.start r0)
  have hz := i0.size
  go_enter Tryz.func147, Tryz.ntmps147
  go_wp2_with fail
  go_loopw [3, 5] (fun ct i wr => ∃ kk : Nat, kk ≤ 9 ∧ i = .int .i64 kk ∧ ct = .int .i64 (Img.cnt (Img.lost m) kk : Nat) ∧ ∃ c1, Hid (Mu w wr b c1) ∧ Hid (IsImg c1 (Img.clearTo m kk))) (fun _ i _ => 9 - (intOf i).toNat)
  case atStart => exact ⟨0, by omega, rfl, rfl, c0, M0, hide i0⟩
  case round =>
    clear M0
    obtain ⟨kk, hk, rfl, rfl, c1, HM, HI⟩ := hrel
    have hct := Img.cnt_le (Img.lost m) kk
    by_cases hlt : kk < 9
    · have t8 : decide ((kk : Int) < 9) = true := by simp; omega
      have jz : (kk : Int) < 9 := by omega
      have h1 := ((unhide HM).has (unhide HI)).of kk hlt
      have h2 := ((unhide HM).has (unhide HI)).text kk hlt
      rw [(Img.clearTo_at m kk).1] at h1
      rw [(Img.clearTo_at m kk).2] at h2
      have QD := neqlDat (m.of kk) 0 (m.text kk) ⟨#[]⟩
      have hfe : (!(m.of kk == 0 && (m.text kk).toList == (⟨#[]⟩ : ByteArray).toList)) = Img.full m kk := by rw [Img.nil_list]; rfl
      rw [hfe] at QD
      clear hfe
      cases hf : Img.full m kk <;> rw [hf] at QD
      · have hg : Img.lost m kk = false := by unfold Img.lost; rw [hf]; rfl
        have H := hide (Img.cnt_no hg)
        have HD := hide (Img.clearTo_no hg)
        clear hg hf
        go_wp2_with fail
        go_roundw
        case rel => exact ⟨kk + 1, by omega, by go_num, by rw [unhide H], c1, HM, hide (by rw [unhide HD]; exact unhide HI)⟩
        case measure => simp [intOf]; omega
      · have RF := hide (holds_any b (Img.clearTo m kk) (kk : Int) wr ((unhide HM).has (unhide HI)))
        rw [Img.clearTo_holds] at RF
        cases hh : m.holds (kk : Int) <;> rw [hh] at RF
        · have hg : Img.lost m kk = true := by unfold Img.lost; rw [hf, hh]; rfl
          have H := hide (Img.cnt_yes hg)
          have HD := hide (Img.clearTo_yes hg)
          have hI := hide ((unhide HI).putData (x := kk) hlt 0 ⟨#[]⟩ (Nat.zero_le _))
          have fz := (unhide HM).frozen
          clear hg hf hh
          go_wp2_with fail
          refine (unhide RF).mono ?_
          rintro e wq ⟨rfl, e9⟩
          rw [e9]
          clear e9 wq RF
          go_wp2_with fail
          go_roundw
          case rel => exact ⟨kk + 1, by omega, by go_num, by rw [unhide H]; go_num, _, hide (((unhide HM).set _ _).set _ _), hide (by rw [unhide HD]; exact unhide hI)⟩
          case measure => simp [intOf]; omega
        · have hg : Img.lost m kk = false := by unfold Img.lost; rw [hf, hh]; rfl
          have H := hide (Img.cnt_no hg)
          have HD := hide (Img.clearTo_no hg)
          clear hg hf hh
          go_wp2_with fail
          refine (unhide RF).mono ?_
          rintro e wq ⟨rfl, e9⟩
          rw [e9]
          clear e9 wq RF
          go_wp2_with fail
          go_roundw
          case rel => exact ⟨kk + 1, by omega, by go_num, by rw [unhide H], c1, HM, hide (by rw [unhide HD]; exact unhide HI)⟩
          case measure => simp [intOf]; omega
    · have e : kk = 9 := by omega
      subst e
      go_wp2_with fail
      go_ret
      exact ⟨rfl, c1, unhide HM, unhide HI⟩
end Go.Proofs.YtfpfpnhpbnnmfadGreatDoor
