/-
  What is mended: layer 6 as plain functions, and their laws. No Go in here.
-/
import Derived.Test.YtmbpckmpnnmnmacGreatDa
import Derived.Test.YtmbpckmpnnmnmacGreatYa
import Derived.Deep.RegionHeld
namespace Go.Proofs.YtmbpckmpnnmnmacGreat
namespace Img
variable {m : Img}
theorem mholds_not {m : Img} {x : Nat} (hx : x < 9) (h : m.holds (x : Int) = false) {n p : Nat} (hn : n < 8) (hp : p < 2) (hl : m.live n = true) : m.part n p ≠ (x : Int) := by
  unfold holds at h
  have hD : isD (x : Int) = true := by simp [isD]; omega
  rw [hD, Bool.true_and, anyB_false] at h
  have := h n hn
  rw [hl, Bool.true_and] at this
  unfold hasPart at this
  rw [Bool.or_eq_false_iff] at this
  match p, hp with
  | 0, _ => simpa using this.1
  | 1, _ => simpa using this.2
/-! parts of two inodes, or of one, are apart -/
theorem mpart_ne {m : Img} (hm : m.check = 0) {n p k q : Nat} (hn : n < 8) (hp : p < 2) (hk : k < 8) (hq : q < 2) (hne : ¬ (n = k ∧ p = q)) (hl : m.live n = true) (hlk : m.live k = true) (hD : isD (m.part n p) = true) : m.part k q ≠ m.part n p := by
  have e1 : m.pa (2 * n + p) = m.part n p := by
    rw [pa_of_live (by rw [show (2 * n + p) / 2 = n by omega]; exact hl), show (2 * n + p) / 2 = n by omega, show (2 * n + p) % 2 = p by omega]
  have e2 : m.pa (2 * k + q) = m.part k q := by
    rw [pa_of_live (by rw [show (2 * k + q) / 2 = k by omega]; exact hlk), show (2 * k + q) / 2 = k by omega, show (2 * k + q) % 2 = q by omega]
  rw [← e1, ← e2]
  exact datas_ne (well_iff.1 hm).datas (by omega) (by omega) (by omega) (by rw [e1]; exact hD)
/-! another count -/
theorem mputLinks_check {m : Img} (hm : m.check = 0) {n : Nat} (hn : n < 8) (hl : m.live n = true) (v : Int) (hv : (m.refs n : Int) ≤ v) : (m.putIno n ⟨m.live n, m.stamp n, v, m.part n 0, m.part n 1⟩).check = 0 := by
  have ok := inode_parts_ok hm hn hl
  refine putIno_check hm _ (.inr ⟨hl, ok.1, hv, fun p hp => ?_⟩) (fun d' s' _ _ _ => ⟨hl, rfl⟩) (fun _ k hk hne hlk => stamps_ne (well_iff.1 hm).stamps hk hn hne hlk hl) (fun _ k q p hk hq hp hne hlk hD => ?_) (fun _ hD => ?_)
  · match p, hp with
    | 0, _ => exact ok.2.2 0 (by omega)
    | 1, _ => exact ok.2.2 1 (by omega)
  · match p, hp with
    | 0, _ => exact mpart_ne hm hn (by omega) hk hq (by omega) hl hlk hD
    | 1, _ => exact mpart_ne hm hn (by omega) hk hq (by omega) hl hlk hD
  · exact fun z => mpart_ne hm hn (show 0 < 2 by omega) hn (show 1 < 2 by omega) (by omega) hl hl hD z.symm
theorem nil_list : (⟨#[]⟩ : ByteArray).toList = [] := by decide +kernel
/-- does an inode go? -/
def goes (m : Img) (n : Nat) : Bool := m.live n && m.refs (n : Int) == 0
def dropTo (m : Img) : Nat → Img
  | 0 => m
  | n + 1 => if goes m n = true then (dropTo m n).putIno n Ino.none else dropTo m n
def other (m : Img) (n : Nat) : Bool := !(m.links n == (m.refs (n : Int) : Int))
def relink (m : Img) (n : Nat) : Img := m.putIno n ⟨m.live n, m.stamp n, (m.refs (n : Int) : Int), m.part n 0, m.part n 1⟩
def setTo (m : Img) : Nat → Img
  | 0 => m
  | n + 1 => if other m n = true then relink (setTo m n) n else setTo m n
def full (m : Img) (x : Nat) : Bool := !(m.of x == 0 && (m.text x).toList == [])
def lost (m : Img) (x : Nat) : Bool := full m x && !m.holds (x : Int)
def clearTo (m : Img) : Nat → Img
  | 0 => m
  | x + 1 => if lost m x = true then (clearTo m x).putData x 0 ⟨#[]⟩ else clearTo m x
def mend1 (m : Img) : Img := dropTo m 8
def mend2 (m : Img) : Img := setTo (mend1 m) 8
def mend (m : Img) : Img := clearTo (mend2 m) 9
def lostF (m : Img) : Nat := cnt (goes m) 8
def lostC (m : Img) : Nat := cnt (other (mend1 m)) 8
def lostD (m : Img) : Nat := cnt (lost (mend2 m)) 9
/-! what is dropped -/
theorem dropTo_dirs (m : Img) : ∀ k, (dropTo m k).name = m.name ∧ (dropTo m k).ino = m.ino ∧ (dropTo m k).est = m.est ∧ (dropTo m k).of = m.of ∧ (dropTo m k).text = m.text
  | 0 => ⟨rfl, rfl, rfl, rfl, rfl⟩
  | k + 1 => by
    have := dropTo_dirs m k
    unfold dropTo
    split
    · exact this
    · exact this
theorem dropTo_refs (m : Img) (k : Nat) (i : Int) : (dropTo m k).refs i = m.refs i := refs_of_dirs (dropTo_dirs m k).1 (dropTo_dirs m k).2.1 i
theorem dropTo_inode (m : Img) (n : Nat) : ∀ k, (dropTo m k).inode n = if n < k ∧ goes m n = true then Ino.none else m.inode n
  | 0 => by simp [dropTo]
  | k + 1 => by
    have ih := dropTo_inode m n k
    unfold dropTo
    by_cases hg : goes m k = true
    · rw [if_pos hg]
      by_cases e : n = k
      · subst e; rw [putIno_at, if_pos ⟨by omega, hg⟩]
      · rw [putIno_other _ _ e, ih]
        by_cases h : n < k ∧ goes m n = true
        · rw [if_pos h, if_pos ⟨by omega, h.2⟩]
        · rw [if_neg h, if_neg (by intro z; exact h ⟨by omega, z.2⟩)]
    · rw [if_neg hg, ih]
      by_cases e : n = k
      · subst e; rw [if_neg (by intro z; omega), if_neg (by intro z; exact hg z.2)]
      · by_cases h : n < k ∧ goes m n = true
        · rw [if_pos h, if_pos ⟨by omega, h.2⟩]
        · rw [if_neg h, if_neg (by intro z; exact h ⟨by omega, z.2⟩)]
theorem dropTo_check (hm : m.check = 0) : ∀ k, (dropTo m k).check = 0
  | 0 => hm
  | k + 1 => by
    have ih := dropTo_check hm k
    unfold dropTo
    by_cases hg : goes m k = true
    · rw [if_pos hg]
      refine putIno_check ih Ino.none (.inl rfl) (fun d s hd hs hl => ?_) (fun z => by cases z) (fun z => by cases z) (fun z => by cases z)
      have h0 : (dropTo m k).refs (k : Int) = 0 := by
        rw [dropTo_refs]; unfold goes at hg; simp at hg; exact hg.2
      have := refs_zero_iff.1 h0 d s hd hs
      rw [this] at hl; cases hl
    · rw [if_neg hg]; exact ih
/-! what is counted again -/
theorem relink_dirs (m : Img) (n : Nat) : (relink m n).name = m.name ∧ (relink m n).ino = m.ino ∧ (relink m n).est = m.est ∧ (relink m n).of = m.of ∧ (relink m n).text = m.text := ⟨rfl, rfl, rfl, rfl, rfl⟩
theorem setTo_dirs (m : Img) : ∀ k, (setTo m k).name = m.name ∧ (setTo m k).ino = m.ino ∧ (setTo m k).est = m.est ∧ (setTo m k).of = m.of ∧ (setTo m k).text = m.text
  | 0 => ⟨rfl, rfl, rfl, rfl, rfl⟩
  | k + 1 => by
    have := setTo_dirs m k
    unfold setTo
    split
    · exact this
    · exact this
theorem setTo_refs (m : Img) (k : Nat) (i : Int) : (setTo m k).refs i = m.refs i := refs_of_dirs (setTo_dirs m k).1 (setTo_dirs m k).2.1 i
def lnkd (m : Img) (n : Nat) : Ino := ⟨m.live n, m.stamp n, (m.refs (n : Int) : Int), m.part n 0, m.part n 1⟩
theorem relink_at (m : Img) (n : Nat) : (relink m n).inode n = lnkd m n := putIno_at _ _ _
theorem setTo_inode (m : Img) (n : Nat) : ∀ k, (setTo m k).inode n = if n < k then lnkd m n else m.inode n
  | 0 => by simp [setTo]
  | k + 1 => by
    have ih := setTo_inode m n k
    unfold setTo
    by_cases hg : other m k = true
    · rw [if_pos hg]
      by_cases e : n = k
      · subst e
        rw [relink_at, if_pos (by omega)]
        rw [if_neg (by omega)] at ih
        obtain ⟨g1, g2, g3, g4⟩ := inode_eq ih
        unfold lnkd
        rw [g1, g2, g4 0 (by omega), g4 1 (by omega), setTo_refs]
      · unfold relink
        rw [putIno_other _ _ e, ih]
        by_cases h : n < k
        · rw [if_pos h, if_pos (by omega)]
        · rw [if_neg h, if_neg (by omega)]
    · rw [if_neg hg, ih]
      by_cases e : n = k
      · subst e
        rw [if_neg (by omega), if_pos (by omega)]
        unfold other at hg
        have hl : m.links n = (m.refs (n : Int) : Int) := by simpa using hg
        unfold lnkd inode; rw [hl]
      · by_cases h : n < k
        · rw [if_pos h, if_pos (by omega)]
        · rw [if_neg h, if_neg (by omega)]
theorem free_links (hm : m.check = 0) {n : Nat} (hn : n < 8) (hl : m.live n = false) : other m n = false := by
  have h1 := inode_free_ok hm hn hl
  have h2 := dead_refs hm hl
  unfold other
  rw [h2]
  have : m.links n = 0 := by unfold inode at h1; injection h1
  rw [this]; rfl
theorem setTo_check (hm : m.check = 0) : ∀ k, k ≤ 8 → (setTo m k).check = 0
  | 0, _ => hm
  | k + 1, hk => by
    have ih := setTo_check hm k (by omega)
    unfold setTo
    by_cases hg : other m k = true
    · rw [if_pos hg]
      have hi := setTo_inode m k k
      rw [if_neg (by omega)] at hi
      obtain ⟨g1, g2, g3, g4⟩ := inode_eq hi
      have hl : (setTo m k).live k = true := by
        rw [g1]
        cases e : m.live k
        · rw [free_links hm (by omega) e] at hg; cases hg
        · rfl
      unfold relink
      exact mputLinks_check ih (by omega) hl _ (Int.le_refl _)
    · rw [if_neg hg]; exact ih
/-! data that are emptied -/
theorem clearTo_rest (m : Img) : ∀ k, (clearTo m k).live = m.live ∧ (clearTo m k).stamp = m.stamp ∧ (clearTo m k).links = m.links ∧ (clearTo m k).part = m.part ∧ (clearTo m k).name = m.name ∧ (clearTo m k).ino = m.ino ∧ (clearTo m k).est = m.est
  | 0 => ⟨rfl, rfl, rfl, rfl, rfl, rfl, rfl⟩
  | k + 1 => by
    have := clearTo_rest m k
    unfold clearTo
    split
    · exact this
    · exact this
theorem holds_rest {a b : Img} (h1 : a.live = b.live) (h2 : a.part = b.part) (x : Int) : a.holds x = b.holds x := by
  unfold holds hasPart; rw [h1, h2]
theorem clearTo_holds (m : Img) (k : Nat) (x : Int) : (clearTo m k).holds x = m.holds x := holds_rest (clearTo_rest m k).1 (clearTo_rest m k).2.2.2.1 x
theorem clearTo_data (m : Img) (x : Nat) : ∀ k, (clearTo m k).of x = (if x < k ∧ lost m x = true then 0 else m.of x) ∧ (clearTo m k).text x = (if x < k ∧ lost m x = true then ⟨#[]⟩ else m.text x)
  | 0 => by simp [clearTo]
  | k + 1 => by
    have ih := clearTo_data m x k
    unfold clearTo
    by_cases hg : lost m k = true
    · rw [if_pos hg]
      by_cases e : x = k
      · subst e
        rw [if_pos ⟨by omega, hg⟩, if_pos ⟨by omega, hg⟩]
        exact ⟨if_pos rfl, if_pos rfl⟩
      · show (if x = k then 0 else (clearTo m k).of x) = _ ∧ (if x = k then ⟨#[]⟩ else (clearTo m k).text x) = _
        rw [if_neg e, if_neg e, ih.1, ih.2]
        by_cases h : x < k ∧ lost m x = true
        · rw [if_pos h, if_pos h, if_pos ⟨by omega, h.2⟩, if_pos ⟨by omega, h.2⟩]; exact ⟨rfl, rfl⟩
        · rw [if_neg h, if_neg h, if_neg (by intro z; exact h ⟨by omega, z.2⟩), if_neg (by intro z; exact h ⟨by omega, z.2⟩)]; exact ⟨rfl, rfl⟩
    · rw [if_neg hg, ih.1, ih.2]
      by_cases e : x = k
      · subst e
        have h0 : ¬ (x < x ∧ lost m x = true) := by intro z; omega
        have h1 : ¬ (x < x + 1 ∧ lost m x = true) := by intro z; exact hg z.2
        rw [if_neg h0, if_neg h0, if_neg h1, if_neg h1]; exact ⟨rfl, rfl⟩
      · by_cases h : x < k ∧ lost m x = true
        · rw [if_pos h, if_pos h, if_pos ⟨by omega, h.2⟩, if_pos ⟨by omega, h.2⟩]; exact ⟨rfl, rfl⟩
        · rw [if_neg h, if_neg h, if_neg (by intro z; exact h ⟨by omega, z.2⟩), if_neg (by intro z; exact h ⟨by omega, z.2⟩)]; exact ⟨rfl, rfl⟩
theorem clearTo_check (hm : m.check = 0) : ∀ k, k ≤ 9 → (clearTo m k).check = 0
  | 0, _ => hm
  | k + 1, hk => by
    have ih := clearTo_check hm k (by omega)
    unfold clearTo
    by_cases hg : lost m k = true
    · rw [if_pos hg]
      refine putData_check ih 0 _ (fun n p hn hp hl hx => ?_)
      have hh : (clearTo m k).holds (k : Int) = false := by
        rw [clearTo_holds]; unfold lost at hg; simp at hg; exact hg.2
      exact absurd hx (mholds_not (by omega) hh hn hp hl)
    · rw [if_neg hg]; exact ih
/-! what is mended -/
theorem mend1_check (hm : m.check = 0) : (mend1 m).check = 0 := dropTo_check hm 8
theorem mend2_check (hm : m.check = 0) : (mend2 m).check = 0 := setTo_check (mend1_check hm) 8 (Nat.le_refl _)
theorem mend_check (hm : m.check = 0) : (mend m).check = 0 := clearTo_check (mend2_check hm) 9 (Nat.le_refl _)
theorem mend_dirs (m : Img) : (mend m).name = m.name ∧ (mend m).ino = m.ino ∧ (mend m).est = m.est := by
  obtain ⟨_, _, _, _, a1, a2, a3⟩ := clearTo_rest (mend2 m) 9
  obtain ⟨b1, b2, b3, _⟩ := setTo_dirs (mend1 m) 8
  obtain ⟨c1, c2, c3, _⟩ := dropTo_dirs m 8
  exact ⟨by unfold mend; rw [a1]; unfold mend2; rw [b1]; unfold mend1; rw [c1], by unfold mend; rw [a2]; unfold mend2; rw [b2]; unfold mend1; rw [c2], by unfold mend; rw [a3]; unfold mend2; rw [b3]; unfold mend1; rw [c3]⟩
theorem mend_refs (m : Img) (i : Int) : (mend m).refs i = m.refs i := refs_of_dirs (mend_dirs m).1 (mend_dirs m).2.1 i
theorem mend_inode (m : Img) {n : Nat} (hn : n < 8) : (mend m).inode n = if goes m n = true then ⟨false, 0, (m.refs (n : Int) : Int), -1, -1⟩ else lnkd m n := by
  obtain ⟨a1, a2, a3, a4, _⟩ := clearTo_rest (mend2 m) 9
  have e : (mend m).inode n = (mend2 m).inode n := by unfold mend inode; rw [a1, a2, a3, a4]
  have e1 := dropTo_inode m n 8
  rw [e]
  unfold mend2
  rw [setTo_inode, if_pos hn]
  by_cases hg : goes m n = true
  · rw [if_pos hg]
    rw [if_pos ⟨hn, hg⟩] at e1
    obtain ⟨g1, g2, g3, g4, g5⟩ := inode_is (show (mend1 m).inode n = ⟨false, 0, 0, -1, -1⟩ from e1)
    unfold lnkd
    rw [g1, g2, g4, g5, show (mend1 m).refs (n : Int) = m.refs (n : Int) from dropTo_refs m 8 _]
  · rw [if_neg hg]
    rw [if_neg (by intro z; exact hg z.2)] at e1
    obtain ⟨g1, g2, g3, g4⟩ := inode_eq (show (mend1 m).inode n = m.inode n from e1)
    unfold lnkd
    rw [g1, g2, g4 0 (by omega), g4 1 (by omega), show (mend1 m).refs (n : Int) = m.refs (n : Int) from dropTo_refs m 8 _]
theorem mend_ex (hm : m.check = 0) : Ex (mend m) := by
  refine ⟨mend_check hm, fun n hn hl => ?_⟩
  have h := mend_inode m hn
  by_cases hg : goes m n = true
  · rw [if_pos hg] at h
    have := (inode_is h).1
    rw [hl] at this; cases this
  · rw [if_neg hg] at h
    obtain ⟨g1, g2, g3, g4, g5⟩ := inode_is h
    rw [g3, mend_refs]
    refine ⟨rfl, ?_⟩
    rw [hl] at g1
    have g1' : m.live n = true := g1.symm
    unfold goes at hg
    rw [g1'] at hg
    have h0 : m.refs (n : Int) ≠ 0 := by simpa using hg
    show 1 ≤ ((m.refs (n : Int) : Nat) : Int)
    omega
end Img
end Go.Proofs.YtmbpckmpnnmnmacGreat
namespace Go.Proofs.YtmbpckmpnnmnmacGreat
open Go.RowKit
theorem IsImg.mLinks {cs : Array Value} {m : Img} (h : IsImg cs m) {n : Nat} (hn : n < 8) (v : Int) : IsImg (cs.setIfInBounds (n * 5 + 2) (.int .i64 v)) (m.putIno n ⟨m.live n, m.stamp n, v, m.part n 0, m.part n 1⟩) := by
  have e : cs.setIfInBounds (n * 5 + 2) (.int .i64 v) = put5v cs n ⟨m.live n, m.stamp n, v, m.part n 0, m.part n 1⟩ := by
    have hs := h.size
    refine Array.ext_getElem? fun j => ?_
    unfold put5v
    rw [set5_get (by omega), Array.getElem?_setIfInBounds]
    have h0 := h.live n hn
    have h1 := h.stamp n hn
    have h3 := h.part n 0 hn (by omega)
    have h4 := h.part n 1 hn (by omega)
    by_cases j0 : j = n * 5
    · subst j0; rw [if_neg (by omega), if_pos rfl, h0]
    · by_cases j1 : j = n * 5 + 1
      · subst j1; rw [if_neg (by omega), if_neg (by omega), if_pos rfl, h1]
      · by_cases j2 : j = n * 5 + 2
        · subst j2; rw [if_pos rfl, if_pos (by omega), if_neg (by omega), if_neg (by omega), if_pos rfl]
        · by_cases j3 : j = n * 5 + 3
          · subst j3; rw [if_neg (by omega), if_neg (by omega), if_neg (by omega), if_neg (by omega), if_pos rfl]; exact h3
          · by_cases j4 : j = n * 5 + 4
            · subst j4; rw [if_neg (by omega), if_neg (by omega), if_neg (by omega), if_neg (by omega), if_neg (by omega), if_pos rfl]; exact h4
            · rw [if_neg (by omega), if_neg j0, if_neg j1, if_neg j2, if_neg j3, if_neg j4]
  rw [e]
  exact h.putIno hn _
/-- one block is another image now; the others that were there are as they were -/
structure Mu (w w' : World) (g : Nat) (c : Array Value) : Prop where
  below : ∀ B, B ≤ g → B ≤ w.heap.size → Below B w w'
  row : w'.heap[g]? = some (.cells c 44)
  lt : g < w.heap.size
  old : ∀ j, j < w.heap.size → j ≠ g → w'.heap[j]? = w.heap[j]?
section
variable {w w1 w2 : World} {g : Nat} {c c' : Array Value} {m : Img}
theorem Mu.start (h : w.heap[g]? = some (.cells c 44)) : Mu w w g c := ⟨fun _ _ _ => Below.refl _ _, h, (Array.getElem?_eq_some_iff.1 h).1, fun _ _ _ => rfl⟩
theorem Mu.size (h : Mu w w1 g c) : w.heap.size ≤ w1.heap.size := (h.below 0 (Nat.zero_le _) (Nat.zero_le _)).size
theorem Mu.call (h : Mu w w1 g c) (hb : Below w1.heap.size w1 w2) : Mu w w2 g c :=
  ⟨fun B h1 h2 => (h.below B h1 h2).trans (hb.mono (Nat.le_trans h2 h.size)), by rw [hb.block _ (Nat.lt_of_lt_of_le h.lt h.size)]; exact h.row, h.lt, fun j hj hne => by rw [hb.block _ (Nat.lt_of_lt_of_le hj h.size), h.old j hj hne]⟩
theorem Mu.set (h : Mu w w1 g c) (i : Nat) (v : Value) : Mu w (w1.setCell ⟨g, i, none⟩ v) g (c.setIfInBounds i v) :=
  ⟨fun B h1 h2 => (h.below B h1 h2).setCell (by exact h1) _, heap_setCell_same _ _ _ _ _ _ h.row, h.lt, fun j hj hne => by rw [heap_setCell_other _ _ _ _ (by exact hne), h.old j hj hne]⟩
theorem Mu.trans (h : Mu w w1 g c) (h' : Mu w1 w2 g c') : Mu w w2 g c' :=
  ⟨fun B h1 h2 => (h.below B h1 h2).trans (h'.below B h1 (Nat.le_trans h2 h.size)), h'.row, h.lt, fun j hj hne => by rw [h'.old j (Nat.lt_of_lt_of_le hj h.size) hne, h.old j hj hne]⟩
theorem Mu.cell (h : Mu w w1 g c) {i : Nat} (hi : i < c.size) : ∃ v, w1.cell? ⟨g, i, none⟩ = some v := ⟨_, by rw [cell_of_row _ _ _ _ _ _ h.row]; exact Array.getElem?_eq_getElem hi⟩
theorem Mu.frozen (h : Mu w w1 g c) (i : Nat) : w1.frozen? ⟨g, i, none⟩ = false := frozen_of_row _ _ _ _ _ h.row
theorem Mu.has (h : Mu w w1 g c) (hi : IsImg c m) : HasImg w1 g m := has_of_row h.row hi
end
namespace Img
variable {m : Img} {n : Nat}
theorem dropTo_yes (h : goes m n = true) : dropTo m (n + 1) = (dropTo m n).putIno n Ino.none := if_pos h
theorem dropTo_no (h : goes m n = false) : dropTo m (n + 1) = dropTo m n := if_neg (by rw [h]; simp)
theorem setTo_yes (h : other m n = true) : setTo m (n + 1) = relink (setTo m n) n := if_pos h
theorem setTo_no (h : other m n = false) : setTo m (n + 1) = setTo m n := if_neg (by rw [h]; simp)
theorem clearTo_yes (h : lost m n = true) : clearTo m (n + 1) = (clearTo m n).putData n 0 ⟨#[]⟩ := if_pos h
theorem clearTo_no (h : lost m n = false) : clearTo m (n + 1) = clearTo m n := if_neg (by rw [h]; simp)
theorem dropTo_live (m : Img) (n : Nat) : (dropTo m n).live n = m.live n := by
  have := dropTo_inode m n n
  rw [if_neg (by intro z; omega)] at this
  exact (inode_eq this).1
theorem setTo_links (m : Img) (n : Nat) : (setTo m n).links n = m.links n := by
  have := setTo_inode m n n
  rw [if_neg (by omega)] at this
  exact (inode_eq this).2.2.1
theorem clearTo_at (m : Img) (n : Nat) : (clearTo m n).of n = m.of n ∧ (clearTo m n).text n = m.text n := by
  have := clearTo_data m n n
  rw [if_neg (by intro z; omega), if_neg (by intro z; omega)] at this
  exact this
end Img
set_option maxRecDepth 100000 in
set_option maxHeartbeats 2000000 in
theorem drop_any (b : Nat) (m : Img) (w : World) (hm : Row w b m) :
    Calls Tryz.prog 90 #[.pointer (some ⟨b, 0, none⟩)] w fun e w' => e = .returned (.int .i64 (Img.lostF m : Nat)) ∧ ∃ c, Mu w w' b c ∧ IsImg c (Img.mend1 m) := by
  obtain ⟨c0, r0, i0⟩ := hm
  have M0 := hide (Mu.start r0)
  have hz := i0.size
  go_enter Tryz.func90, Tryz.ntmps90
  go_wp2_with fail
  go_loopw [3, 5] (fun ct i wr => ∃ kk : Nat, kk ≤ 8 ∧ i = .int .i64 kk ∧ ct = .int .i64 (Img.cnt (Img.goes m) kk : Nat) ∧ ∃ c1, Hid (Mu w wr b c1) ∧ Hid (IsImg c1 (Img.dropTo m kk))) (fun _ i _ => 8 - (intOf i).toNat)
  case atStart => exact ⟨0, by omega, rfl, rfl, c0, M0, hide i0⟩
  case round =>
    clear M0
    obtain ⟨kk, hk, rfl, rfl, c1, HM, HI⟩ := hrel
    have hct := Img.cnt_le (Img.goes m) kk
    by_cases hlt : kk < 8
    · have t8 : decide ((kk : Int) < 8) = true := by simp; omega
      have jz : (kk : Int) < 8 := by omega
      have hl := ((unhide HM).has (unhide HI)).live kk hlt
      rw [Img.dropTo_live] at hl
      cases hv : m.live kk <;> rw [hv] at hl
      · have hg : Img.goes m kk = false := by unfold Img.goes; rw [hv]; rfl
        have H := hide (Img.cnt_no hg)
        have HD := hide (Img.dropTo_no hg)
        clear hg hv
        go_wp2_with fail
        go_roundw
        case rel => exact ⟨kk + 1, by omega, by go_num, by rw [unhide H], c1, HM, hide (by rw [unhide HD]; exact unhide HI)⟩
        case measure => simp [intOf]; omega
      · have RF := hide (refs_any b (Img.dropTo m kk) (kk : Int) wr ((unhide HM).has (unhide HI)))
        rw [Img.dropTo_refs] at RF
        by_cases hr : m.refs (kk : Int) = 0
        · have hg : Img.goes m kk = true := by unfold Img.goes; rw [hv, hr]; rfl
          have H := hide (Img.cnt_yes hg)
          have HD := hide (Img.dropTo_yes hg)
          rw [hr] at RF
          clear hg hv hr
          go_wp2_with fail
          refine (unhide RF).mono ?_
          rintro e wq ⟨rfl, e9⟩
          rw [e9]
          clear e9 wq RF
          have HMd := hide ((unhide HM).call (Below.refl _ _).drew)
          have h1 := (unhide HI).size
          have hI := hide ((unhide HI).putIno (n := kk) hlt Ino.none)
          clear hl
          go_wp2_with fail
          go_region_with (go_at_call 85; refine (free_any _).mono ?_; rintro e w1 ⟨rfl, hb1⟩; have M4 := hide ((unhide HMd).call hb1); obtain ⟨v0, f0⟩ := (unhide M4).cell (i := kk * 5) (by omega); obtain ⟨v1, f1⟩ := (unhide M4).cell (i := kk * 5 + 1) (by omega); obtain ⟨v2, f2⟩ := (unhide M4).cell (i := kk * 5 + 1 + 1) (by omega); obtain ⟨v3, f3⟩ := (unhide M4).cell (i := kk * 5 + 1 + 1 + 1) (by omega); obtain ⟨v4, f4⟩ := (unhide M4).cell (i := kk * 5 + 1 + 1 + 1 + 1) (by omega); have fz := (unhide M4).frozen; clear hb1)
          all_goals
            go_wp2_with fail
            go_roundw
            case rel => exact ⟨kk + 1, by omega, by go_num, by rw [unhide H]; go_num, _, hide ((((((unhide M4).set _ _).set _ _).set _ _).set _ _).set _ _), hide (by rw [unhide HD]; exact unhide hI)⟩
            case measure => simp [intOf]; omega
        · have hg : Img.goes m kk = false := by unfold Img.goes; rw [hv]; simpa using hr
          have H := hide (Img.cnt_no hg)
          have HD := hide (Img.dropTo_no hg)
          have hq : (((m.refs (kk : Int) : Nat) : Int) == 0) = false := by simpa using hr
          generalize ((m.refs (kk : Int) : Nat) : Int) = rr at RF hq
          clear hg hv hr
          go_wp2_with fail
          refine (unhide RF).mono ?_
          rintro e wq ⟨rfl, e9⟩
          rw [e9]
          clear e9 wq RF
          go_wp2_with fail
          go_roundw
          case rel => exact ⟨kk + 1, by omega, by go_num, by rw [unhide H], c1, HM, hide (by rw [unhide HD]; exact unhide HI)⟩
          case measure => simp [intOf]; omega
    · have e : kk = 8 := by omega
      subst e
      go_wp2_with fail
      go_ret
      exact ⟨rfl, c1, unhide HM, unhide HI⟩
set_option maxRecDepth 100000 in
set_option maxHeartbeats 2000000 in
theorem set_any (b : Nat) (m : Img) (w : World) (hm : Row w b m) :
    Calls Tryz.prog 91 #[.pointer (some ⟨b, 0, none⟩)] w fun e w' => e = .returned (.int .i64 (Img.cnt (Img.other m) 8 : Nat)) ∧ ∃ c, Mu w w' b c ∧ IsImg c (Img.setTo m 8) := by
  obtain ⟨c0, r0, i0⟩ := hm
  have M0 := hide (Mu.start r0)
  have hz := i0.size
  go_enter Tryz.func91, Tryz.ntmps91
  go_wp2_with fail
  go_loopw [3, 6] (fun ct i wr => ∃ kk : Nat, kk ≤ 8 ∧ i = .int .i64 kk ∧ ct = .int .i64 (Img.cnt (Img.other m) kk : Nat) ∧ ∃ c1, Hid (Mu w wr b c1) ∧ Hid (IsImg c1 (Img.setTo m kk))) (fun _ i _ => 8 - (intOf i).toNat)
  case atStart => exact ⟨0, by omega, rfl, rfl, c0, M0, hide i0⟩
  case round =>
    clear M0
    obtain ⟨kk, hk, rfl, rfl, c1, HM, HI⟩ := hrel
    have hct := Img.cnt_le (Img.other m) kk
    by_cases hlt : kk < 8
    · have t8 : decide ((kk : Int) < 8) = true := by simp; omega
      have jz : (kk : Int) < 8 := by omega
      have hl := ((unhide HM).has (unhide HI)).links kk hlt
      rw [Img.setTo_links] at hl
      have RF := hide (refs_any b (Img.setTo m kk) (kk : Int) wr ((unhide HM).has (unhide HI)))
      rw [Img.setTo_refs] at RF
      cases hg : Img.other m kk
      · have H := hide (Img.cnt_no hg)
        have HD := hide (Img.setTo_no hg)
        have hq : (m.links kk != (m.refs (kk : Int) : Nat)) = false := by unfold Img.other at hg; simpa [bne] using hg
        generalize ((m.refs (kk : Int) : Nat) : Int) = rr at RF hq
        clear hg
        go_wp2_with fail
        refine (unhide RF).mono ?_
        rintro e wq ⟨rfl, e9⟩
        rw [e9]
        clear e9 wq RF
        go_wp2_with fail
        go_roundw
        case rel => exact ⟨kk + 1, by omega, by go_num, by rw [unhide H], c1, HM, hide (by rw [unhide HD]; exact unhide HI)⟩
        case measure => simp [intOf]; omega
      · have H := hide (Img.cnt_yes hg)
        have HD := hide (Img.setTo_yes hg)
        have hq : (m.links kk != (m.refs (kk : Int) : Nat)) = true := by unfold Img.other at hg; simpa [bne] using hg
        have hI := hide ((unhide HI).mLinks (n := kk) hlt (m.refs (kk : Int) : Nat))
        have e0 : Img.relink (Img.setTo m kk) kk = (Img.setTo m kk).putIno kk ⟨(Img.setTo m kk).live kk, (Img.setTo m kk).stamp kk, (m.refs (kk : Int) : Nat), (Img.setTo m kk).part kk 0, (Img.setTo m kk).part kk 1⟩ := by unfold Img.relink; rw [Img.setTo_refs]
        rw [← e0] at hI
        clear e0
        generalize ((m.refs (kk : Int) : Nat) : Int) = rr at RF hq hI
        have fz := (unhide HM).frozen
        clear hg
        go_wp2_with fail
        refine (unhide RF).mono ?_
        rintro e wq ⟨rfl, e9⟩
        rw [e9]
        clear e9 wq RF
        go_wp2_with fail
        go_roundw
        case rel => exact ⟨kk + 1, by omega, by go_num, by rw [unhide H]; go_num, _, hide ((unhide HM).set _ _), hide (by rw [unhide HD]; exact unhide hI)⟩
        case measure => simp [intOf]; omega
    · have e : kk = 8 := by omega
      subst e
      go_wp2_with fail
      go_ret
      exact ⟨rfl, c1, unhide HM, unhide HI⟩
set_option maxRecDepth 100000 in
set_option maxHeartbeats 2000000 in
theorem clear_any (b : Nat) (m : Img) (w : World) (hm : Row w b m) :
    Calls Tryz.prog 92 #[.pointer (some ⟨b, 0, none⟩)] w fun e w' => e = .returned (.int .i64 (Img.cnt (Img.lost m) 9 : Nat)) ∧ ∃ c, Mu w w' b c ∧ IsImg c (Img.clearTo m 9) := by
  obtain ⟨c0, r0, i0⟩ := hm
  have M0 := hide (Mu.start r0)
  have hz := i0.size
  go_enter Tryz.func92, Tryz.ntmps92
  go_wp2_with fail
  go_loopw [3, 5] (fun ct i wr => ∃ kk : Nat, kk ≤ 9 ∧ i = .int .i64 kk ∧ ct = .int .i64 (Img.cnt (Img.lost m) kk : Nat) ∧ ∃ c1, Hid (Mu w wr b c1) ∧ Hid (IsImg c1 (Img.clearTo m kk))) (fun _ i _ => 9 - (intOf i).toNat)
  case atStart => exact ⟨0, by omega, rfl, rfl, c0, M0, hide i0⟩
  case round =>
    clear M0
    obtain ⟨kk, hk, rfl, rfl, c1, HM, HI⟩ := hrel
    have hct := Img.cnt_le (Img.lost m) kk
    by_cases hlt : kk < 9
    · have t8 : decide ((kk : Int) < 9) = true := by simp; omega
      have jz : (kk : Int) < 9 := by omega
      have h1 := ((unhide HM).has (unhide HI)).of kk hlt
      have h2 := ((unhide HM).has (unhide HI)).text kk hlt
      rw [(Img.clearTo_at m kk).1] at h1
      rw [(Img.clearTo_at m kk).2] at h2
      have QD := neqlDat (m.of kk) 0 (m.text kk) ⟨#[]⟩
      have hfe : (!(m.of kk == 0 && (m.text kk).toList == (⟨#[]⟩ : ByteArray).toList)) = Img.full m kk := by rw [Img.nil_list]; rfl
      rw [hfe] at QD
      clear hfe
      cases hf : Img.full m kk <;> rw [hf] at QD
      · have hg : Img.lost m kk = false := by unfold Img.lost; rw [hf]; rfl
        have H := hide (Img.cnt_no hg)
        have HD := hide (Img.clearTo_no hg)
        clear hg hf
        go_wp2_with fail
        go_roundw
        case rel => exact ⟨kk + 1, by omega, by go_num, by rw [unhide H], c1, HM, hide (by rw [unhide HD]; exact unhide HI)⟩
        case measure => simp [intOf]; omega
      · have RF := hide (holds_any b (Img.clearTo m kk) (kk : Int) wr ((unhide HM).has (unhide HI)))
        rw [Img.clearTo_holds] at RF
        cases hh : m.holds (kk : Int) <;> rw [hh] at RF
        · have hg : Img.lost m kk = true := by unfold Img.lost; rw [hf, hh]; rfl
          have H := hide (Img.cnt_yes hg)
          have HD := hide (Img.clearTo_yes hg)
          have hI := hide ((unhide HI).putData (x := kk) hlt 0 ⟨#[]⟩ (Nat.zero_le _))
          have fz := (unhide HM).frozen
          clear hg hf hh
          go_wp2_with fail
          refine (unhide RF).mono ?_
          rintro e wq ⟨rfl, e9⟩
          rw [e9]
          clear e9 wq RF
          go_wp2_with fail
          go_roundw
          case rel => exact ⟨kk + 1, by omega, by go_num, by rw [unhide H]; go_num, _, hide (((unhide HM).set _ _).set _ _), hide (by rw [unhide HD]; exact unhide hI)⟩
          case measure => simp [intOf]; omega
        · have hg : Img.lost m kk = false := by unfold Img.lost; rw [hf, hh]; rfl
          have H := hide (Img.cnt_no hg)
          have HD := hide (Img.clearTo_no hg)
          clear hg hf hh
          go_wp2_with fail
          refine (unhide RF).mono ?_
          rintro e wq ⟨rfl, e9⟩
          rw [e9]
          clear e9 wq RF
          go_wp2_with fail
          go_roundw
          case rel => exact ⟨kk + 1, by omega, by go_num, by rw [unhide H], c1, HM, hide (by rw [unhide HD]; exact unhide HI)⟩
          case measure => simp [intOf]; omega
    · have e : kk = 9 := by omega
      subst e
      go_wp2_with fail
      go_ret
      exact ⟨rfl, c1, unhide HM, unhide HI⟩
end Go.Proofs.YtmbpckmpnnmnmacGreat
namespace Go.Proofs.YtmbpckmpnnmnmacGreat
open Go.RowKit
/-- rows of some types in blocks, all of them new -/
structure By (w wr : World) (l : List (Nat × Array Value × TypeId)) : Prop where
  below : Below w.heap.size w wr
  lo : ∀ p ∈ l, w.heap.size ≤ p.1
  row : ∀ p ∈ l, wr.heap[p.1]? = some (.cells p.2.1 p.2.2)
  nd : (l.map (·.1)).Nodup
/-- one block is another row now; the others that were there are as they were -/
structure Mv (w w' : World) (g : Nat) (c : Array Value) (t : TypeId) : Prop where
  below : ∀ B, B ≤ g → B ≤ w.heap.size → Below B w w'
  row : w'.heap[g]? = some (.cells c t)
  old : ∀ j, j < w.heap.size → j ≠ g → w'.heap[j]? = w.heap[j]?
section
variable {w w1 w2 wr : World} {g : Nat} {c c' : Array Value} {t : TypeId} {l : List (Nat × Array Value × TypeId)}
theorem Mv.of {w3 : World} (h : Below w.heap.size w w1) (hg : g < w.heap.size) (e : w3 = w1.setRow g c') (hr : w.heap[g]? = some (.cells c t)) : Mv w w3 g c' t := by
  subst e
  refine ⟨fun B h1 h2 => below_setRow (h.mono h2) h1 _, ?_, fun j hj hne => ?_⟩
  · exact setRow_heap _ _ _ _ _ _ (by rw [h.block _ hg]; exact hr)
  · rw [setRow_other _ _ _ _ hne, h.block _ hj]
theorem Mv.refl' (hb : Below w.heap.size w w1) (hg : g < w.heap.size) (hr : w.heap[g]? = some (.cells c t)) : Mv w w1 g c t :=
  ⟨fun B _ h2 => hb.mono h2, by rw [hb.block _ hg]; exact hr, fun j hj _ => hb.block _ hj⟩
theorem Mv.size (h : Mv w w1 g c t) : w.heap.size ≤ w1.heap.size := (h.below 0 (Nat.zero_le _) (Nat.zero_le _)).size
theorem Mv.trans (h : Mv w w1 g c t) (h' : Mv w1 w2 g c' t) : Mv w w2 g c' t :=
  ⟨fun B h1 h2 => (h.below B h1 h2).trans (h'.below B h1 (Nat.le_trans h2 h.size)), h'.row, fun j hj hne => by rw [h'.old j (Nat.lt_of_lt_of_le hj h.size) hne, h.old j hj hne]⟩
theorem Mv.call (h : Mv w w1 g c t) (hg : g < w.heap.size) (hb : Below w1.heap.size w1 w2) : Mv w w2 g c t :=
  ⟨fun B h1 h2 => (h.below B h1 h2).trans (hb.mono (Nat.le_trans h2 h.size)), by rw [hb.block _ (Nat.lt_of_lt_of_le hg h.size)]; exact h.row, fun j hj hne => by rw [hb.block _ (Nat.lt_of_lt_of_le hj h.size), h.old j hj hne]⟩
theorem By.hi (h : By w wr l) {p : Nat × Array Value × TypeId} (hp : p ∈ l) : p.1 < wr.heap.size := (Array.getElem?_eq_some_iff.1 (h.row p hp)).1
theorem By.start (w : World) : By w w [] := ⟨Below.refl _ _, fun _ h => by simp at h, fun _ h => by simp at h, by simp⟩
theorem By.call (h : By w wr l) (hb : Below wr.heap.size wr w1) : By w w1 l :=
  ⟨h.below.trans (hb.mono h.below.size), h.lo, fun p hp => by rw [hb.block _ (h.hi hp)]; exact h.row p hp, h.nd⟩
theorem By.draw (h : By w wr l) (q : Nat) : By w (wr.drewN q) l := h.call (belowN (Below.refl _ _))
/-- a block that was laid since -/
theorem By.add (h : By w wr l) (hb : Below wr.heap.size wr w1) (hg : wr.heap.size ≤ g) (hr : w1.heap[g]? = some (.cells c t)) : By w w1 ((g, c, t) :: l) := by
  have h1 := h.call hb
  refine ⟨h1.below, fun p hp => ?_, fun p hp => ?_, ?_⟩
  · rcases List.mem_cons.1 hp with e | e
    · subst e; exact Nat.le_trans h.below.size hg
    · exact h1.lo p e
  · rcases List.mem_cons.1 hp with e | e
    · subst e; exact hr
    · exact h1.row p e
  · rw [List.map_cons, List.nodup_cons]
    refine ⟨fun hm => ?_, h.nd⟩
    obtain ⟨p, hp, e⟩ := List.mem_map.1 hm
    have := h.hi hp
    simp at e; omega
theorem By.box (h : By w wr l) (c : Array Value) (t : TypeId) : By w (wr.alloc (.cells c t)) ((wr.heap.size, c, t) :: l) :=
  h.add ((Below.refl _ _).alloc (Nat.le_refl _) _) (Nat.le_refl _) (heap_alloc_last _ _)
theorem By.mut0 (h : By w wr ((g, c, t) :: l)) (hm : Mv wr w1 g c' t) : By w w1 ((g, c', t) :: l) := by
  have hn := h.nd
  rw [List.map_cons, List.nodup_cons] at hn
  refine ⟨h.below.trans (hm.below _ (h.lo _ (List.mem_cons_self ..)) h.below.size), fun p hp => ?_, fun p hp => ?_, by rw [List.map_cons, List.nodup_cons]; exact hn⟩
  · rcases List.mem_cons.1 hp with e | e
    · subst e; exact h.lo (g, c, t) (List.mem_cons_self ..)
    · exact h.lo p (List.mem_cons_of_mem _ e)
  · rcases List.mem_cons.1 hp with e | e
    · subst e; exact hm.row
    · rw [hm.old _ (h.hi (List.mem_cons_of_mem _ e)) (fun z => hn.1 (by rw [← z]; exact List.mem_map_of_mem (f := (·.1)) e))]
      exact h.row p (List.mem_cons_of_mem _ e)
theorem By.swap {p q : Nat × Array Value × TypeId} (h : By w wr (p :: q :: l)) : By w wr (q :: p :: l) := by
  have hm : ∀ x, x ∈ q :: p :: l → x ∈ p :: q :: l := fun x hx => by simp at hx ⊢; rcases hx with e | e | e <;> simp [e]
  refine ⟨h.below, fun x hx => h.lo x (hm x hx), fun x hx => h.row x (hm x hx), ?_⟩
  have hn := h.nd
  simp only [List.map_cons, List.nodup_cons, List.mem_cons] at hn ⊢
  obtain ⟨h1, h2, h3⟩ := hn
  exact ⟨fun z => by rcases z with z | z; exact h1 (.inl z.symm); exact h2 z, fun z => h1 (.inr z), h3⟩
theorem By.mut1 {p : Nat × Array Value × TypeId} (h : By w wr (p :: (g, c, t) :: l)) (hm : Mv wr w1 g c' t) : By w w1 (p :: (g, c', t) :: l) := ((h.swap).mut0 hm).swap
theorem By.is (h : By w wr l) {c : Array Value} (hp : (g, c, 44) ∈ l) {m : Img} (hi : IsImg c m) : Row wr g m := ⟨c, h.row (g, c, _) hp, hi⟩
theorem By.has (h : By w wr l) {c : Array Value} (hp : (g, c, 44) ∈ l) {m : Img} (hi : IsImg c m) : HasImg wr g m := (h.is hp hi).has
theorem By.swap1 {p q r : Nat × Array Value × TypeId} (h : By w wr (p :: q :: r :: l)) : By w wr (p :: r :: q :: l) := by
  have hm : ∀ x, x ∈ p :: r :: q :: l → x ∈ p :: q :: r :: l := fun x hx => by simp at hx ⊢; rcases hx with e | e | e | e <;> simp [e]
  refine ⟨h.below, fun x hx => h.lo x (hm x hx), fun x hx => h.row x (hm x hx), ?_⟩
  have hn := h.nd
  simp only [List.map_cons, List.nodup_cons, List.mem_cons] at hn ⊢
  obtain ⟨h1, h2, h3, h4⟩ := hn
  exact ⟨fun z => h1 (by rcases z with z | z | z; exact .inr (.inl z); exact .inl z; exact .inr (.inr z)), fun z => by rcases z with z | z; exact h2 (.inl z.symm); exact h3 z, fun z => h2 (.inr z), h4⟩
theorem By.swap2 {p q r s : Nat × Array Value × TypeId} (h : By w wr (p :: q :: r :: s :: l)) : By w wr (p :: q :: s :: r :: l) := by
  have hm : ∀ x, x ∈ p :: q :: s :: r :: l → x ∈ p :: q :: r :: s :: l := fun x hx => by simp at hx ⊢; rcases hx with e | e | e | e | e <;> simp [e]
  refine ⟨h.below, fun x hx => h.lo x (hm x hx), fun x hx => h.row x (hm x hx), ?_⟩
  have hn := h.nd
  simp only [List.map_cons, List.nodup_cons, List.mem_cons] at hn ⊢
  obtain ⟨h1, h2, h3, h4, h5⟩ := hn
  exact ⟨fun z => h1 (by rcases z with z | z | z | z; exact .inl z; exact .inr (.inr (.inl z)); exact .inr (.inl z); exact .inr (.inr (.inr z))), fun z => h2 (by rcases z with z | z | z; exact .inr (.inl z); exact .inl z; exact .inr (.inr z)), fun z => by rcases z with z | z; exact h3 (.inl z.symm); exact h4 z, fun z => h3 (.inr z), h5⟩
theorem By.mut2 {p q : Nat × Array Value × TypeId} (h : By w wr (p :: q :: (g, c, t) :: l)) (hm : Mv wr w1 g c' t) : By w w1 (p :: q :: (g, c', t) :: l) := ((h.swap1).mut1 hm).swap1
theorem By.mut3 {p q r : Nat × Array Value × TypeId} (h : By w wr (p :: q :: r :: (g, c, t) :: l)) (hm : Mv wr w1 g c' t) : By w w1 (p :: q :: r :: (g, c', t) :: l) := ((h.swap2).mut2 hm).swap2
theorem By.fz (h : By w wr l) {c : Array Value} (hp : (g, c, t) ∈ l) (i : Nat) : wr.frozen? ⟨g, i, none⟩ = false := frozen_of_row _ _ _ _ _ (h.row (g, c, t) hp)
theorem By.cell (h : By w wr l) {c : Array Value} (hp : (g, c, t) ∈ l) (i : Nat) : wr.cell? ⟨g, i, none⟩ = c[i]? := cell_of_row _ _ _ _ _ _ (h.row (g, c, t) hp)
theorem Mv.set (hr : w.heap[g]? = some (.cells c t)) (i : Nat) (v : Value) : Mv w (w.setCell ⟨g, i, none⟩ v) g (c.setIfInBounds i v) t :=
  ⟨fun B h1 _ => (Below.refl _ _).setCell (by exact h1) _, heap_setCell_same _ _ _ _ _ _ hr, fun j _ hne => heap_setCell_other _ _ _ _ (by exact hne)⟩
theorem Mv.set0 {a b d v : Value} (hr : w.heap[g]? = some (.cells #[a, b, d] t)) : Mv w (w.setCell ⟨g, 0, none⟩ v) g #[v, b, d] t := Mv.set hr 0 v
theorem Mv.set1 {a b d v : Value} (hr : w.heap[g]? = some (.cells #[a, b, d] t)) : Mv w (w.setCell ⟨g, 1, none⟩ v) g #[a, v, d] t := Mv.set hr 1 v
theorem Mv.set2 {a b d v : Value} (hr : w.heap[g]? = some (.cells #[a, b, d] t)) : Mv w (w.setCell ⟨g, 2, none⟩ v) g #[a, b, v] t := Mv.set hr 2 v
theorem Mv.row' (hr : w.heap[g]? = some (.cells c t)) (c' : Array Value) : Mv w (w.setRow g c') g c' t := Mv.of (Below.refl _ w) (Array.getElem?_eq_some_iff.1 hr).1 rfl hr
theorem Mu.mv (h : Mu w w1 g c) : Mv w w1 g c 44 := ⟨h.below, h.row, h.old⟩
end
theorem results_cell2_tmp {fn : Func} {p q u : Tmp} {ty tz : TypeId} (h : fn.results = #[.cell p ty, .cell q tz, .tmp u]) (tmps : Array Value) (P : Program) (w : World) :
    (results fn tmps).run P w =
      ((asAddr (tmps.getD p undef)).run P w).andThen fun a w₁ => ((loadVar ty a).run P w₁).andThen fun v w₂ => ((asAddr (tmps.getD q undef)).run P w₂).andThen fun b w₃ => ((loadVar tz b).run P w₃).andThen fun v' w₄ => .ok (.tuple #[v, v', tmps.getD u undef]) w₄ := by
  simp only [results, h]
  simp [Sem.run_bind, Result.andThen]
theorem results_rows {P : Program} {fn : Func} {p q u : Tmp} {ty tz : TypeId} (h : fn.results = #[.cell p ty, .cell q tz, .tmp u]) (tmps : Array Value) (w : World) (g k : Nat) (cs ds : Array Value) (d d' : TypeDesc) (v : Value)
    (hp : tmps.getD p undef = .pointer (some ⟨g, 0, none⟩)) (hq : tmps.getD q undef = .pointer (some ⟨k, 0, none⟩)) (hv : tmps.getD u undef = v) (hg : w.heap[g]? = some (.cells cs ty)) (hk : w.heap[k]? = some (.cells ds tz))
    (hu : P.underlying ty = some d) (hd : (match d with | .struct _ | .array _ _ => true | _ => false) = true) (hi : (P.info? ty).map (·.size) = some cs.size)
    (hu' : P.underlying tz = some d') (hd' : (match d' with | .struct _ | .array _ _ => true | _ => false) = true) (hi' : (P.info? tz).map (·.size) = some ds.size) :
    (results fn tmps).run P w = .ok (.tuple #[.agg cs, .agg ds, v]) w := by
  rw [results_cell2_tmp h, hp, hq, hv]
  simp [asAddr, run_loadVar_row w g ty ty cs (0, 0) d hg hu hd hi, run_loadVar_row w k tz tz ds (0, 0) d' hk hu' hd' hi']
theorem lost_under : Tryz.prog.underlying 48 = some (.struct (Tryz.prog.fieldsOf 48)) := by kernel_rfl
theorem lost_info : (Tryz.prog.info? 48).map (·.size) = some 3 := by kernel_rfl
/-- the three counts -/
def lostA (a b c : Int) : Array Value := #[.int .i64 a, .int .i64 b, .int .i64 c]
theorem run_exec_load_whole {P : Program} {o : Oper} {ρ : Operand → Value} (ty : TypeId) (x : Operand) (ho : o.op = .load ty x) (g : Nat) (hx : ρ x = .pointer (some ⟨g, 0, none⟩)) (w : World) (t : TypeId) (cs : Array Value) (fr : Nat × Nat) (d : TypeDesc)
    (hg : w.heap[g]? = some (.cells cs t fr)) (hu : P.underlying ty = some d) (hd : (match d with | .struct _ | .array _ _ => true | _ => false) = true) (hi : (P.info? ty).map (·.size) = some cs.size) :
    (execOp ρ o).run P w = .ok (.value (.agg cs)) w := by
  unfold execOp
  simp only [ho, hx, Instr.loadAt, Instr.sureAddr, Sem.run_bind, Sem.run_pure, Result.andThen_ok, run_loadVar_row w g t ty cs fr d hg hu hd hi]
/-- what Mend answers -/
def MendIs (m : Img) (e : Ending) : Prop :=
  (m.check = 0 ∧ ∃ c, IsImg c (Img.mend m) ∧ e = .returned (.tuple #[.agg c, .agg (lostA (Img.lostF m : Nat) (Img.lostC m : Nat) (Img.lostD m : Nat)), .int .i64 0])) ∨ (m.check ≠ 0 ∧ e = .returned (.tuple #[.agg zeroCells, .agg (lostA 0 0 0), .int .i64 m.check]))
theorem zero_sz : zeroCells.size = 94 := size_newTo 0
theorem zero_kinds' : Kinds zeroCells := .of (size_newTo 0) (by kernel_rfl)
set_option maxRecDepth 100000 in
set_option maxHeartbeats 2000000 in
theorem mend_any (cs : Array Value) (m : Img) (hi : IsImg cs m) (w : World) :
    Calls Tryz.prog 62 #[.agg cs] w fun e w' => MendIs m e ∧ Below w.heap.size w w' := by
  have z := zero_img.1
  have bz := build_img
  have zz := zero_sz
  have B1 := hide ((((By.start w).box cs 44).box zeroCells 44).box (lostA 0 0 0) 48)
  have CK := hide (check_any w.heap.size m _ ((unhide B1).has (by simp) hi))
  have e1 : (w.alloc (.cells cs 44)).heap.size = w.heap.size + 1 := by simp
  have e2 : ((w.alloc (.cells cs 44)).alloc (.cells zeroCells 44)).heap.size = w.heap.size + 2 := by simp
  rw [e1, e2] at B1
  clear e1 e2
  go_enter Tryz.func62, Tryz.ntmps62
  unfold lostA at B1 CK
  by_cases hc : m.check = 0
  case neg =>
    have hcn : (m.check != 0) = true := by simpa using hc
    have HC := hide hc
    clear hc
    go_wp2_with fail
    refine (unhide CK).mono ?_
    rintro e w1 ⟨rfl, b1⟩
    have B2 := hide ((unhide B1).call b1)
    clear b1 B1 CK
    have s1 := hide ((unhide B2).row (w.heap.size + 1, zeroCells, 44) (by simp))
    have B3 := hide ((unhide B2).mut1 (Mv.row' (unhide s1) zeroCells))
    have R3 := hide ((unhide B3).row (w.heap.size + 2, #[.int .i64 0, .int .i64 0, .int .i64 0], 48) (by simp))
    have c0 : (w1.setRow (w.heap.size + 1) zeroCells).cell? ⟨w.heap.size + 2, 0, none⟩ = some (.int .i64 0) := by rw [cell_of_row _ _ _ _ _ _ (unhide R3)]; rfl
    have c1 : (w1.setRow (w.heap.size + 1) zeroCells).cell? ⟨w.heap.size + 2, 1, none⟩ = some (.int .i64 0) := by rw [cell_of_row _ _ _ _ _ _ (unhide R3)]; rfl
    have c2 : (w1.setRow (w.heap.size + 1) zeroCells).cell? ⟨w.heap.size + 2, 2, none⟩ = some (.int .i64 0) := by rw [cell_of_row _ _ _ _ _ _ (unhide R3)]; rfl
    have fz := fun i => frozen_of_row _ _ i _ _ (unhide R3)
    have B5 := hide ((unhide B3).mut0 (Mv.set0 (v := .int .i64 0) (unhide R3)))
    have B6 := hide ((unhide B5).mut0 (Mv.set1 (v := .int .i64 0) ((unhide B5).row (w.heap.size + 2, #[.int .i64 0, .int .i64 0, .int .i64 0], 48) (by simp))))
    have B7 := hide ((unhide B6).mut0 (Mv.set2 (v := .int .i64 0) ((unhide B6).row (w.heap.size + 2, #[.int .i64 0, .int .i64 0, .int .i64 0], 48) (by simp))))
    rw [show w.heap.size + 2 = w.heap.size + 1 + 1 from rfl] at c0 c1 c2 fz
    clear B3 B5 B6 R3 B2
    go_wp2_with (have hx := unhide s1; refine wpList_store_row rfl 44 _ _ rfl (w.heap.size + 1) zeroCells rfl rfl 44 zeroCells hx (img_info zz) rfl zero_kinds'.isImg.all ?_; clear hx s1)
    refine bodyPost_ret (v := .tuple #[.agg zeroCells, .agg (lostA 0 0 0), .int .i64 m.check]) ?_ rfl ⟨.inr ⟨unhide HC, rfl⟩, (unhide B7).below⟩
    exact results_rows (P := Tryz.prog) Tryz.results62 _ _ (w.heap.size + 1) (w.heap.size + 2) zeroCells (lostA 0 0 0) _ _ _ rfl rfl rfl ((unhide B7).row (w.heap.size + 1, zeroCells, 44) (by simp)) ((unhide B7).row (w.heap.size + 2, #[.int .i64 0, .int .i64 0, .int .i64 0], 48) (by simp)) img_under rfl (img_info zz) lost_under rfl lost_info
  case pos =>
    have HC := hide hc
    rw [hc] at CK
    clear hc
    go_wp2_with fail
    refine (unhide CK).mono ?_
    rintro e w1 ⟨rfl, b1⟩
    have B2 := hide (((unhide B1).call b1).box #[.int .i64 0, .int .i64 0, .int .i64 0] 48)
    clear b1 B1 CK
    have D1 := hide (drop_any w.heap.size m _ ((unhide B2).is (by simp) hi))
    go_wp2_with fail
    generalize w1.alloc (.cells #[.int .i64 0, .int .i64 0, .int .i64 0] 48) = X1 at B2 D1 ⊢
    generalize w1.heap.size = g6 at B2 ⊢
    refine (unhide D1).mono ?_
    rintro e w2 ⟨rfl, c1, M1, i1⟩
    have B3 := hide ((unhide B2).mut3 M1.mv)
    clear M1 B2 D1
    have f1 : w2.cell? ⟨g6, 0, none⟩ = some (.int .i64 0) := by rw [cell_of_row _ _ _ _ _ _ ((unhide B3).row (g6, #[.int .i64 0, .int .i64 0, .int .i64 0], 48) (by simp))]; rfl
    have fz := fun i => frozen_of_row _ _ i _ _ ((unhide B3).row (g6, _, 48) (List.mem_cons_self ..))
    have B4 := hide ((unhide B3).mut0 (Mv.set0 (v := .int .i64 (Img.lostF m : Nat)) ((unhide B3).row (g6, #[.int .i64 0, .int .i64 0, .int .i64 0], 48) (by simp))))
    have D2 := hide (set_any w.heap.size (Img.mend1 m) _ ((unhide B4).is (by simp) i1))
    have E1 : ∃ n1 : Int, n1 = (Img.lostF m : Nat) := ⟨_, rfl⟩
    obtain ⟨n1, e1⟩ := E1
    rw [← e1] at B4 D2 ⊢
    have E1 := hide e1
    clear e1
    go_wp2_with fail
    generalize w2.setCell ⟨g6, 0, none⟩ (.int .i64 n1) = X2 at B4 D2 ⊢
    clear B3 f1 fz
    refine (unhide D2).mono ?_
    rintro e w3 ⟨rfl, c2, M2, i2⟩
    have B5 := hide ((unhide B4).mut3 M2.mv)
    clear M2 B4 D2
    have f1 : w3.cell? ⟨g6, 1, none⟩ = some (.int .i64 0) := by rw [cell_of_row _ _ _ _ _ _ ((unhide B5).row (g6, #[.int .i64 n1, .int .i64 0, .int .i64 0], 48) (by simp))]; rfl
    have fz := fun i => frozen_of_row _ _ i _ _ ((unhide B5).row (g6, _, 48) (List.mem_cons_self ..))
    have B6 := hide ((unhide B5).mut0 (Mv.set1 (v := .int .i64 (Img.cnt (Img.other (Img.mend1 m)) 8 : Nat)) ((unhide B5).row (g6, #[.int .i64 n1, .int .i64 0, .int .i64 0], 48) (by simp))))
    have D3 := hide (clear_any w.heap.size (Img.mend2 m) _ ((unhide B6).is (by simp) i2))
    have E2 : ∃ n2 : Int, n2 = (Img.cnt (Img.other (Img.mend1 m)) 8 : Nat) := ⟨_, rfl⟩
    obtain ⟨n2, e2⟩ := E2
    rw [← e2] at B6 D3 ⊢
    have E2 := hide e2
    clear e2
    go_wp2_with fail
    generalize w3.setCell ⟨g6, 1, none⟩ (.int .i64 n2) = X3 at B6 D3 ⊢
    clear B5 f1 fz
    refine (unhide D3).mono ?_
    rintro e w4 ⟨rfl, c3, M3, i3⟩
    have B7 := hide ((unhide B6).mut3 M3.mv)
    clear M3 B6 D3
    have f1 : w4.cell? ⟨g6, 2, none⟩ = some (.int .i64 0) := by rw [cell_of_row _ _ _ _ _ _ ((unhide B7).row (g6, #[.int .i64 n1, .int .i64 n2, .int .i64 0], 48) (by simp))]; rfl
    have fz := fun i => frozen_of_row _ _ i _ _ ((unhide B7).row (g6, _, 48) (List.mem_cons_self ..))
    have B8 := hide ((unhide B7).mut0 (Mv.set2 (v := .int .i64 (Img.cnt (Img.lost (Img.mend2 m)) 9 : Nat)) ((unhide B7).row (g6, #[.int .i64 n1, .int .i64 n2, .int .i64 0], 48) (by simp))))
    have E3 : ∃ n3 : Int, n3 = (Img.cnt (Img.lost (Img.mend2 m)) 9 : Nat) := ⟨_, rfl⟩
    obtain ⟨n3, e3⟩ := E3
    rw [← e3] at B8 ⊢
    have E3 := hide e3
    clear e3
    go_wp2_with fail
    generalize w4.setCell ⟨g6, 2, none⟩ (.int .i64 n3) = X4 at B8 ⊢
    clear B7 f1 fz
    have B9 := hide ((unhide B8).call ((Below.refl _ _).drew))
    clear B8
    have z3 := i3.size
    refine wp_region_held_drew (S := fun W => W.heap[w.heap.size]? = some (.cells c3 44) ∧ W.heap[g6]? = some (.cells #[.int .i64 n1, .int .i64 n2, .int .i64 n3] 48)) (by kernel_rfl) ⟨(unhide B9).row (w.heap.size, c3, 44) (by simp), (unhide B9).row (g6, #[.int .i64 n1, .int .i64 n2, .int .i64 n3], 48) (by simp)⟩ (fun hS => ?_)
    generalize X4.drew = X5 at hS B9 ⊢
    refine wpAnyH_take (i := 0) (v := .agg c3) rfl (by kernel_rfl) (by kernel_rfl) (by kernel_rfl) (fun _ _ _ h => h) (Or.inl ⟨by rfl, fun W h => run_exec_load_whole 44 _ rfl w.heap.size rfl W 44 c3 (0, 0) _ h.1 img_under rfl (img_info z3)⟩) hS ?_
    refine wpAnyH_take (i := 1) (v := .agg #[.int .i64 n1, .int .i64 n2, .int .i64 n3]) rfl (by kernel_rfl) (by kernel_rfl) (by kernel_rfl) (fun _ _ _ h => h) (Or.inl ⟨by rfl, fun W h => run_exec_load_whole 48 _ rfl g6 rfl W 48 _ (0, 0) _ h.2 lost_under rfl lost_info⟩) hS ?_
    have R2 := (unhide B9).row (w.heap.size + 1, zeroCells, 44) (by simp)
    have BA := hide ((unhide B9).mut2 (Mv.row' R2 c3))
    have R3 := (unhide BA).row (w.heap.size + 2, #[.int .i64 0, .int .i64 0, .int .i64 0], 48) (by simp)
    have BB := hide ((unhide BA).mut1 (Mv.row' R3 #[.int .i64 n1, .int .i64 n2, .int .i64 n3]))
    refine wpAnyH_ready (rs := [2]) (by kernel_rfl) (by simp) ?_
    refine AllReadyH.cons rfl (fun K hK => ?_) AllReadyH.nil
    rw [if_pos (by rfl)]
    refine wp_store_row 44 _ _ rfl (w.heap.size + 1) c3 rfl rfl 44 zeroCells R2 (img_info z3) (zero_size i3) i3.all ?_
    refine hK.out _ _ ⟨(unhide BA).row (w.heap.size, c3, 44) (by simp), (unhide BA).row (g6, #[.int .i64 n1, .int .i64 n2, .int .i64 n3], 48) (by simp)⟩ (fun hS2 => ?_)
    clear hK K
    refine wpAnyH_ready (rs := [3]) (by kernel_rfl) (by simp) ?_
    refine AllReadyH.cons rfl (fun K hK => ?_) AllReadyH.nil
    rw [if_pos (by rfl)]
    refine wp_store_row 48 _ _ rfl (w.heap.size + 2) #[.int .i64 n1, .int .i64 n2, .int .i64 n3] rfl rfl 48 #[.int .i64 0, .int .i64 0, .int .i64 0] R3 lost_info rfl (by kernel_rfl) ?_
    refine hK.out _ _ ⟨(unhide BB).row (w.heap.size, c3, 44) (by simp), (unhide BB).row (g6, #[.int .i64 n1, .int .i64 n2, .int .i64 n3], 48) (by simp)⟩ (fun hS3 => ?_)
    clear hK K
    refine wpAnyH_take (i := 4) (v := .int .i64 0) rfl (by kernel_rfl) (by kernel_rfl) (by kernel_rfl) (fun _ _ _ h => h) (Or.inl ⟨by rfl, fun W h => by first | kernel_rfl | go_simp⟩) hS3 ?_
    refine wpAnyH_done (by kernel_rfl) ?_ _
    go_wp2_with fail
    have MI : MendIs m (.returned (.tuple #[.agg c3, .agg #[.int .i64 n1, .int .i64 n2, .int .i64 n3], .int .i64 0])) := .inl ⟨unhide HC, c3, i3, by rw [unhide E1, unhide E2, unhide E3]; rfl⟩
    refine bodyPost_ret (v := .tuple #[.agg c3, .agg #[.int .i64 n1, .int .i64 n2, .int .i64 n3], .int .i64 0]) ?_ rfl ⟨MI, (unhide BB).below⟩
    exact results_rows (P := Tryz.prog) Tryz.results62 _ _ (w.heap.size + 1) (w.heap.size + 2) c3 #[.int .i64 n1, .int .i64 n2, .int .i64 n3] _ _ _ rfl rfl rfl ((unhide BB).row (w.heap.size + 1, c3, 44) (by simp)) ((unhide BB).row (w.heap.size + 2, #[.int .i64 n1, .int .i64 n2, .int .i64 n3], 48) (by simp)) img_under rfl (img_info z3) lost_under rfl lost_info
end Go.Proofs.YtmbpckmpnnmnmacGreat
namespace Go.Proofs.YtmbpckmpnnmnmacGreat
namespace Img
variable {m : Img}
theorem dropTo_same (k : Nat) (h : ∀ n, n < k → goes m n = false) : dropTo m k = m := by
  induction k with
  | zero => rfl
  | succ k ih =>
    unfold dropTo
    rw [if_neg (by rw [h k (by omega)]; simp)]
    exact ih (fun n hn => h n (by omega))
theorem setTo_same (k : Nat) (h : ∀ n, n < k → other m n = false) : setTo m k = m := by
  induction k with
  | zero => rfl
  | succ k ih =>
    unfold setTo
    rw [if_neg (by rw [h k (by omega)]; simp)]
    exact ih (fun n hn => h n (by omega))
theorem clearTo_same (k : Nat) (h : ∀ n, n < k → lost m n = false) : clearTo m k = m := by
  induction k with
  | zero => rfl
  | succ k ih =>
    unfold clearTo
    rw [if_neg (by rw [h k (by omega)]; simp)]
    exact ih (fun n hn => h n (by omega))
theorem cnt_none {p : Nat → Bool} : ∀ {k : Nat}, (∀ n, n < k → p n = false) → cnt p k = 0
  | 0, _ => rfl
  | k + 1, h => by rw [cnt_no (h k (by omega))]; exact cnt_none fun n hn => h n (by omega)
/-- what an inode that is left has -/
structure Left (m : Img) (n : Nat) : Prop where
  live : (mend m).live n = m.live n
  stamp : (mend m).stamp n = m.stamp n
  links : (mend m).links n = (m.refs (n : Int) : Int)
  part : ∀ p, p < 2 → (mend m).part n p = m.part n p
theorem left {n : Nat} (hn : n < 8) (hg : goes m n = false) : Left m n := by
  have h := mend_inode m hn
  rw [if_neg (by rw [hg]; simp)] at h
  obtain ⟨g1, g2, g3, g4, g5⟩ := inode_is h
  refine ⟨g1, g2, g3, fun p hp => ?_⟩
  match p, hp with
  | 0, _ => exact g4
  | 1, _ => exact g5
theorem gone {n : Nat} (hn : n < 8) (hg : goes m n = true) : (mend m).live n = false ∧ m.live n = true ∧ m.refs (n : Int) = 0 := by
  have h := mend_inode m hn
  rw [if_pos hg] at h
  unfold goes at hg
  simp at hg
  exact ⟨(inode_is h).1, hg.1, hg.2⟩
theorem mend_live {n : Nat} (hn : n < 8) : (mend m).live n = (m.live n && !goes m n) := by
  cases hg : goes m n
  · rw [(left hn hg).live]; simp
  · rw [(gone hn hg).1]; simp
theorem again_goes (hm : m.check = 0) {n : Nat} (hn : n < 8) : goes (mend m) n = false := by
  unfold goes
  cases hl : (mend m).live n
  · rfl
  · have := ((mend_ex hm).links n hn hl)
    have h0 : (mend m).refs (n : Int) ≠ 0 := by omega
    simpa using h0
theorem again_other (hm : m.check = 0) {n : Nat} (hn : n < 8) : other (mend m) n = false := by
  cases hl : (mend m).live n
  · exact free_links (mend_check hm) hn hl
  · unfold other
    rw [((mend_ex hm).links n hn hl).1]; simp
theorem mend_data (m : Img) {x : Nat} (hx : x < 9) : (mend m).of x = (if lost (mend2 m) x = true then 0 else m.of x) ∧ (mend m).text x = (if lost (mend2 m) x = true then ⟨#[]⟩ else m.text x) := by
  have h := clearTo_data (mend2 m) x 9
  have e1 : (mend2 m).of = m.of := by unfold mend2; rw [(setTo_dirs _ 8).2.2.2.1]; exact (dropTo_dirs m 8).2.2.2.1
  have e2 : (mend2 m).text = m.text := by unfold mend2; rw [(setTo_dirs _ 8).2.2.2.2]; exact (dropTo_dirs m 8).2.2.2.2
  rw [e1, e2] at h
  unfold mend
  rw [h.1, h.2]
  cases hl : lost (mend2 m) x
  · simp
  · simp [hx]
theorem mend_holds (m : Img) (x : Int) : (mend m).holds x = (mend2 m).holds x := clearTo_holds _ _ _
theorem full2 (m : Img) (x : Nat) : full (mend2 m) x = full m x := by
  have e1 : (mend2 m).of = m.of := by unfold mend2; rw [(setTo_dirs _ 8).2.2.2.1]; exact (dropTo_dirs m 8).2.2.2.1
  have e2 : (mend2 m).text = m.text := by unfold mend2; rw [(setTo_dirs _ 8).2.2.2.2]; exact (dropTo_dirs m 8).2.2.2.2
  unfold full; rw [e1, e2]
theorem again_lost (m : Img) {x : Nat} (hx : x < 9) : lost (mend m) x = false := by
  have h := mend_data m hx
  cases hl : lost (mend2 m) x
  · rw [hl] at h
    unfold lost at hl ⊢
    rw [mend_holds]
    have e : full (mend m) x = full (mend2 m) x := by rw [full2]; unfold full; rw [h.1, h.2]; rfl
    rw [e]; exact hl
  · rw [hl] at h
    unfold lost
    have e : full (mend m) x = false := by unfold full; rw [h.1, h.2, if_pos rfl, if_pos rfl, nil_list]; rfl
    rw [e]; rfl
theorem again1 (hm : m.check = 0) : mend1 (mend m) = mend m := dropTo_same 8 fun _ hn => again_goes hm hn
theorem again2 (hm : m.check = 0) : mend2 (mend m) = mend m := by
  unfold mend2; rw [again1 hm]; exact setTo_same 8 fun _ hn => again_other hm hn
theorem again (hm : m.check = 0) : mend (mend m) = mend m ∧ lostF (mend m) = 0 ∧ lostC (mend m) = 0 ∧ lostD (mend m) = 0 := by
  refine ⟨?_, ?_, ?_, ?_⟩
  · have : mend (mend m) = clearTo (mend2 (mend m)) 9 := rfl
    rw [this, again2 hm]; exact clearTo_same 9 fun _ hn => again_lost m hn
  · exact cnt_none fun _ hn => again_goes hm hn
  · unfold lostC; rw [again1 hm]; exact cnt_none fun _ hn => again_other hm hn
  · unfold lostD; rw [again2 hm]; exact cnt_none fun _ hn => again_lost m hn
/-! what is named -/
theorem leads_stays {d s n : Nat} (hd : d < 3) (hs : s < 4) (hl : m.leads (n : Int) d s = true) : goes m n = false := by
  have := refs_pos_of_leads hd hs hl
  unfold goes
  have h0 : m.refs (n : Int) ≠ 0 := by omega
  cases m.live n
  · rfl
  · simpa using h0
structure Named (m : Img) (d s n : Nat) : Prop where
  n8 : n < 8
  ino : m.ino d s = (n : Int)
  live : (mend m).live n = true
  stamp : (mend m).stamp n = m.stamp n
  part : ∀ p, p < 2 → (mend m).part n p = m.part n p
  data : ∀ p, p < 2 → 0 ≤ m.part n p → ∃ x : Nat, x < 9 ∧ m.part n p = (x : Int) ∧ (mend m).of x = m.of x ∧ (mend m).text x = m.text x
theorem named_kept (hm : m.check = 0) {d s : Nat} (hd : d < 3) (hs : s < 4) (hn : m.named d s = true) : ∃ n, Named m d s n := by
  have k := (slot_ok hn).1 ((well_iff.1 hm).slot d s hd hs)
  obtain ⟨n, hi⟩ := Int.eq_ofNat_of_zero_le k.lo
  have h8 := k.hi
  have hlv := k.live
  rw [hi, Int.toNat_natCast] at hlv
  have hle : m.leads (n : Int) d s = true := by unfold leads; rw [hn, hi]; simp
  have hg := leads_stays hd hs hle
  have n8 : n < 8 := by omega
  have l := left n8 hg
  refine ⟨n, n8, hi, by rw [l.live]; exact hlv, l.stamp, l.part, fun p hp h0 => ?_⟩
  have ok := (inode_parts_ok hm n8 hlv).2.2 p hp
  rw [checkPart_iff] at ok
  rcases ok with e | ⟨e, _⟩
  · omega
  have hb : 0 ≤ m.part n p ∧ m.part n p < 9 := by simpa [isD] using e
  obtain ⟨x, hx⟩ := Int.eq_ofNat_of_zero_le h0
  have x9 : x < 9 := by omega
  have hh : (mend2 m).holds (x : Int) = true := by
    rw [← mend_holds]
    cases hq : (mend m).holds (x : Int)
    · have := mholds_not x9 hq n8 hp (by rw [l.live]; exact hlv)
      rw [l.part p hp] at this
      exact absurd hx this
    · rfl
  have hno : lost (mend2 m) x = false := by unfold lost; rw [hh]; simp
  have hd2 := mend_data m x9
  rw [hno] at hd2
  exact ⟨x, x9, hx, by simpa using hd2.1, by simpa using hd2.2⟩
/-! what is counted -/
theorem count_files {n : Nat} (hn : n < 8) : (m.live n && !(mend m).live n) = goes m n := by
  rw [mend_live hn]
  unfold goes
  cases m.live n <;> simp
theorem count_links (hm : m.check = 0) {n : Nat} (hn : n < 8) : ((mend m).live n && !(m.links n == (mend m).links n)) = other (mend1 m) n := by
  have e1 := dropTo_inode m n 8
  cases hg : goes m n
  · rw [if_neg (by intro z; rw [hg] at z; cases z.2)] at e1
    have l := left hn hg
    unfold other
    rw [l.live, l.links, show (mend1 m).refs (n : Int) = m.refs (n : Int) from dropTo_refs m 8 _, show (mend1 m).links n = m.links n from (inode_eq e1).2.2.1]
    cases hl : m.live n
    · have := free_links hm hn hl
      unfold other at this
      rw [this]; rfl
    · rfl
  · rw [if_pos ⟨hn, hg⟩] at e1
    have h := gone hn hg
    unfold other
    rw [h.1, show (mend1 m).refs (n : Int) = m.refs (n : Int) from dropTo_refs m 8 _, h.2.2, show (mend1 m).links n = 0 from (inode_is e1).2.2.1]
    rfl
theorem count_more (hm : m.check = 0) {n : Nat} (hn : n < 8) (hl : (mend m).live n = true) : (mend m).links n ≤ m.links n := by
  cases hg : goes m n
  · have l := left hn hg
    rw [l.live] at hl
    rw [l.links]
    exact (inode_parts_ok hm hn hl).2.1
  · rw [(gone hn hg).1] at hl; cases hl
theorem full_empty {o : Int} {t : ByteArray} (h : (o == 0 && t.toList == []) = true) : o = 0 ∧ t.toList = [] := by simpa using h
theorem count_data {x : Nat} (hx : x < 9) : (!(m.of x == (mend m).of x && (m.text x).toList == ((mend m).text x).toList)) = lost (mend2 m) x := by
  have h := mend_data m hx
  rw [h.1, h.2]
  cases hl : lost (mend2 m) x
  · simp
  · rw [if_pos rfl, if_pos rfl]
    have : full m x = true := by
      rw [← full2]; unfold lost at hl; rw [Bool.and_eq_true] at hl; exact hl.1
    rw [nil_list]
    exact this
theorem count_zero {x : Nat} (hx : x < 9) (hl : lost (mend2 m) x = true) : (mend m).of x = 0 ∧ (mend m).text x = ⟨#[]⟩ := by
  have h := mend_data m hx
  rw [hl] at h
  exact ⟨by simpa using h.1, by simpa using h.2⟩
end Img
end Go.Proofs.YtmbpckmpnnmnmacGreat
namespace Go.Proofs.YtmbpckmpnnmnmacGreat
open Go.RowKit
def lostB (a b c d e f : Int) : Bool := a == d && b == e && c == f
theorem eqLost_v (n : Nat) (a b c d e f : Int) : EqV Tryz.prog (n + 2) 48 (.agg (lostA a b c)) (.agg (lostA d e f)) (lostB a b c d e f) := by
  intro w
  have u1 := Tryz.underlying3
  unfold lostA lostB
  rw [show n + 2 = (n + 1) + 1 from rfl]
  go_simp
  cases h1 : a == d <;> cases h2 : b == e <;> cases h3 : c == f <;> simp_all
theorem eqLost (a b c d e f : Int) (w : World) : (binOp .eql 48 (.agg (lostA a b c)) (.agg (lostA d e f))).run Tryz.prog w = .ok (.bool (lostB a b c d e f)) w := by
  unfold lostA
  rw [run_eql_struct]
  have := eqLost_v 9998 a b c d e f w
  unfold lostA at this
  rw [this]; rfl
theorem run_exec_eqv {P : Program} {o : Oper} {ρ : Operand → Value} (ty tz : TypeId) (x y : Operand) (ho : o.op = .binOp .eql ty x y tz) (cs ds : Array Value) (hx : ρ x = .agg cs) (hy : ρ y = .agg ds) (v : Bool)
    (hm : P.eqGuardType P.depth ty = false) (hq : ∀ w, (binOp .eql ty (.agg cs) (.agg ds)).run P w = .ok (.bool v) w) (w : World) : (execOp ρ o).run P w = .ok (.value (.bool v)) w := by
  unfold execOp
  rw [ho]
  go_simp
theorem run_exec_nev {P : Program} {o : Oper} {ρ : Operand → Value} (ty tz : TypeId) (x y : Operand) (ho : o.op = .binOp .neq ty x y tz) (cs ds : Array Value) (hx : ρ x = .agg cs) (hy : ρ y = .agg ds) (v : Bool)
    (hm : P.eqGuardType P.depth ty = false) (hq : ∀ w, (binOp .neq ty (.agg cs) (.agg ds)).run P w = .ok (.bool v) w) (w : World) : (execOp ρ o).run P w = .ok (.value (.bool v)) w := by
  unfold execOp
  rw [ho]
  go_simp
def mbI : Img := (oneI.putIno 2 ⟨oneI.live 2, oneI.stamp 2, 3, oneI.part 2 0, oneI.part 2 1⟩).putData 5 9 ⟨#[121]⟩
theorem mb_check : mbI.check = 0 := by kernel_rfl
theorem mb_mend : Img.sameImg (Img.mend mbI) oneI = true := by kernel_rfl
theorem mb_f : Img.lostF mbI = 0 := by kernel_rfl
theorem mb_c : Img.lostC mbI = 1 := by kernel_rfl
theorem mb_d : Img.lostD mbI = 1 := by kernel_rfl
theorem mz_check : (imgOf zeroCells).check = 12 := by kernel_rfl
/-- two boxes, of an image and of counts, laid and filled -/
theorem By.pair {w wr : World} {l : List (Nat × Array Value × TypeId)} (h : By w wr l) (c : Array Value) (a b d : Value) :
    By w ((((((wr.alloc (.cells zeroCells 44)).alloc (.cells #[.int .i64 0, .int .i64 0, .int .i64 0] 48)).setRow wr.heap.size c).setCell ⟨wr.heap.size + 1, 0, none⟩ a).setCell ⟨wr.heap.size + 1, 1, none⟩ b).setCell ⟨wr.heap.size + 1, 2, none⟩ d) ((wr.heap.size + 1, #[a, b, d], 48) :: (wr.heap.size, c, 44) :: l) := by
  have h2 := (h.box zeroCells 44).box #[.int .i64 0, .int .i64 0, .int .i64 0] 48
  rw [show (wr.alloc (.cells zeroCells 44)).heap.size = wr.heap.size + 1 by simp] at h2
  have h3 := h2.mut1 (Mv.row' (h2.row (wr.heap.size, zeroCells, 44) (by simp)) c)
  have h4 := h3.mut0 (Mv.set0 (v := a) (h3.row (wr.heap.size + 1, _, 48) (List.mem_cons_self ..)))
  have h5 := h4.mut0 (Mv.set1 (v := b) (h4.row (wr.heap.size + 1, _, 48) (List.mem_cons_self ..)))
  exact h5.mut0 (Mv.set2 (v := d) (h5.row (wr.heap.size + 1, _, 48) (List.mem_cons_self ..)))
/-- what the walk wants to know of them -/
structure Two2 (wr : World) (c : Array Value) : Prop where
  r0 : ((wr.alloc (.cells zeroCells 44)).alloc (.cells #[.int .i64 0, .int .i64 0, .int .i64 0] 48)).heap[wr.heap.size]? = some (.cells zeroCells 44)
  r1 : (((wr.alloc (.cells zeroCells 44)).alloc (.cells #[.int .i64 0, .int .i64 0, .int .i64 0] 48)).setRow wr.heap.size c).heap[wr.heap.size + 1]? = some (.cells #[.int .i64 0, .int .i64 0, .int .i64 0] 48)
theorem two2 (wr : World) (c : Array Value) : Two2 wr c := by
  refine ⟨heap_alloc2_old _ _ _, ?_⟩
  rw [setRow_other _ _ _ _ (by omega)]
  exact heap_alloc2_new _ _ _
theorem Two2.cells {wr : World} {c : Array Value} (h : Two2 wr c) (j : Nat) (hj : j < 3) : (((wr.alloc (.cells zeroCells 44)).alloc (.cells #[.int .i64 0, .int .i64 0, .int .i64 0] 48)).setRow wr.heap.size c).cell? ⟨wr.heap.size + 1, j, none⟩ = some (.int .i64 0) := by
  rw [cell_of_row _ _ _ _ _ _ h.r1]
  match j, hj with
  | 0, _ => rfl
  | 1, _ => rfl
  | 2, _ => rfl
theorem Two2.fz {wr : World} {c : Array Value} (h : Two2 wr c) (j : Nat) : (((wr.alloc (.cells zeroCells 44)).alloc (.cells #[.int .i64 0, .int .i64 0, .int .i64 0] 48)).setRow wr.heap.size c).frozen? ⟨wr.heap.size + 1, j, none⟩ = false := frozen_of_row _ _ _ _ _ h.r1
end Go.Proofs.YtmbpckmpnnmnmacGreat
