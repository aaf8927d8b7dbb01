/-
  Plain laws of layer 3: one Write does no harm. No Go in here.
-/
import Derived.Test.YtfpfpnhpbnnmfadGreatDoorXab
namespace Go.Proofs.YtfpfpnhpbnnmfadGreatDoor
namespace Img
variable {now disk : Img}
/-- nothing is put to another use while the disk leads to it -/
structure Fit (now disk : Img) : Prop where
  other : ∀ n, n < 8 → now.live n = true → disk.live n = true → now.stamp n ≠ disk.stamp n → disk.refs n = 0
  stamp : ∀ n k, n < 8 → k < 8 → k ≠ n → now.live n = true → disk.live k = true → disk.stamp k ≠ now.stamp n
  data : ∀ n p k q, n < 8 → p < 2 → k < 8 → q < 2 → now.live n = true → 0 ≤ now.part n p → disk.live k = true → disk.part k q = now.part n p → k = n ∧ q = p ∧ disk.stamp k = now.stamp n
  held : ∀ x n p, x < 9 → n < 8 → p < 2 → disk.live n = true → disk.part n p = (x : Nat) → now.of x = disk.of x
  slot : ∀ d s, d < 3 → s < 4 → now.named d s = true → disk.named d s = true → sameEnt now disk d s = true
  name : ∀ d s t, d < 3 → s < 4 → t < 4 → t ≠ s → now.named d s = true → (disk.name d t).toList ≠ (now.name d s).toList
theorem stamps_iff {m : Img} : m.stampTwice = false ↔ ∀ n k, n < 8 → k < n → m.live n = true → m.live k = true → m.stamp n ≠ m.stamp k := by
  unfold stampTwice
  rw [anyB_false]
  constructor
  · intro h n k hn hk l1 l2 e
    have := anyB_false.1 (h n hn) k hk
    rw [l1, l2, e] at this; simp at this
  · intro h n hn
    rw [anyB_false]
    intro k hk
    cases l1 : m.live n
    · rfl
    · cases l2 : m.live k
      · rfl
      · have := h n k hn hk l1 l2
        simp [this]
theorem stamps_ne {m : Img} (h : m.stampTwice = false) {n k : Nat} (hn : n < 8) (hk : k < 8) (hne : n ≠ k) (l1 : m.live n = true) (l2 : m.live k = true) : m.stamp n ≠ m.stamp k := by
  rcases Nat.lt_or_ge k n with x | x
  · exact stamps_iff.1 h n k hn x l1 l2
  · exact fun e => stamps_iff.1 h k n hk (by omega) l2 l1 e.symm
theorem datas_iff {m : Img} : m.dataTwice = false ↔ ∀ t u, t < 16 → u < t → isD (m.pa t) = true → m.pa u ≠ m.pa t := by
  unfold dataTwice
  rw [anyB_false]
  constructor
  · intro h t u ht hu l1 e
    have h1 := h t ht
    rw [l1, Bool.true_and] at h1
    have := anyB_false.1 h1 u hu
    rw [e] at this; simp at this
  · intro h t ht
    cases l1 : isD (m.pa t)
    · rfl
    · rw [Bool.true_and, anyB_false]
      intro u hu
      have := h t u ht hu l1
      simp [this]
theorem datas_ne {m : Img} (h : m.dataTwice = false) {t u : Nat} (ht : t < 16) (hu : u < 16) (hne : t ≠ u) (l1 : isD (m.pa t) = true) : m.pa u ≠ m.pa t := by
  rcases Nat.lt_or_ge u t with x | x
  · exact datas_iff.1 h t u ht x l1
  · exact fun e => datas_iff.1 h u t hu (by omega) (by rw [e]; exact l1) e.symm
theorem pa_of_dead {m : Img} {t : Nat} (h : m.live (t / 2) = false) : m.pa t = -1 := by unfold pa; rw [h]; rfl
theorem pa_of_live {m : Img} {t : Nat} (h : m.live (t / 2) = true) : m.pa t = m.part (t / 2) (t % 2) := by unfold pa; rw [h]; rfl
/-- an inode of the image behind the Write is as the disk's, or as what is to be -/
structure Mixed (now disk x : Img) : Prop where
  stamp : ∀ n, n < 8 → x.live n = true → (now.live n = true ∧ x.stamp n = now.stamp n) ∨ (disk.live n = true ∧ x.stamp n = disk.stamp n)
  part : ∀ n p, n < 8 → p < 2 → x.live n = true → x.part n p = -1 ∨ (now.live n = true ∧ x.part n p = now.part n p) ∨ (disk.live n = true ∧ x.part n p = disk.part n p)
theorem mixed_twice (hn : now.check = 0) (hd : disk.check = 0) (hf : Fit now disk) {x : Img} (h : Mixed now disk x) : x.stampTwice = false ∧ x.dataTwice = false := by
  have wn := well_iff.1 hn
  have wd := well_iff.1 hd
  constructor
  · rw [stamps_iff]
    intro n k h8 hk l1 l2
    rcases h.stamp n h8 l1 with ⟨a1, a2⟩ | ⟨a1, a2⟩ <;> rcases h.stamp k (by omega) l2 with ⟨b1, b2⟩ | ⟨b1, b2⟩ <;> rw [a2, b2]
    · exact stamps_ne wn.stamps h8 (by omega) (by omega) a1 b1
    · exact fun e => hf.stamp n k h8 (by omega) (by omega) a1 b1 e.symm
    · exact hf.stamp k n (by omega) h8 (by omega) b1 a1
    · exact stamps_ne wd.stamps h8 (by omega) (by omega) a1 b1
  · rw [datas_iff]
    intro t u ht hu l1 e
    have ltx : x.live (t / 2) = true := by
      cases hl : x.live (t / 2)
      · rw [pa_of_dead hl] at l1; simp [isD] at l1
      · rfl
    have lux : x.live (u / 2) = true := by
      cases hl : x.live (u / 2)
      · rw [← e, pa_of_dead hl] at l1; simp [isD] at l1
      · rfl
    rw [pa_of_live ltx] at l1 e
    rw [pa_of_live lux] at e
    have hpos : 0 ≤ x.part (t / 2) (t % 2) := by
      have : 0 ≤ x.part (t / 2) (t % 2) ∧ x.part (t / 2) (t % 2) < 9 := by simpa [isD] using l1
      exact this.1
    rcases h.part (t / 2) (t % 2) (by omega) (by omega) ltx with a | ⟨a1, a2⟩ | ⟨a1, a2⟩
    · omega
    · rcases h.part (u / 2) (u % 2) (by omega) (by omega) lux with b | ⟨b1, b2⟩ | ⟨b1, b2⟩
      · omega
      · have := datas_ne wn.datas (t := t) (u := u) ht (by omega) (by omega) (by rw [pa_of_live a1, ← a2]; exact l1)
        rw [pa_of_live a1, pa_of_live b1, ← a2, ← b2] at this
        exact this e
      · have := hf.data (t / 2) (t % 2) (u / 2) (u % 2) (by omega) (by omega) (by omega) (by omega) a1 (by omega) b1 (by omega)
        omega
    · rcases h.part (u / 2) (u % 2) (by omega) (by omega) lux with b | ⟨b1, b2⟩ | ⟨b1, b2⟩
      · omega
      · have := hf.data (u / 2) (u % 2) (t / 2) (t % 2) (by omega) (by omega) (by omega) (by omega) b1 (by omega) a1 (by omega)
        omega
      · have := datas_ne wd.datas (t := t) (u := u) ht (by omega) (by omega) (by rw [pa_of_live a1, ← a2]; exact l1)
        rw [pa_of_live a1, pa_of_live b1, ← a2, ← b2] at this
        exact this e
theorem checkInode_live {m : Img} {n : Nat} (hl : m.live n = true) (h1 : 1 ≤ m.stamp n) (h2 : (m.refs n : Int) ≤ m.links n) (h3 : ∀ p, p < 2 → m.checkPart (m.part n p) (m.stamp n) = 0) : m.checkInode n = 0 := by
  unfold checkInode
  rw [if_neg (by rw [hl]; simp), if_neg (by omega)]
  exact firstNZ_zero h3
theorem checkInode_none {m : Img} {n : Nat} (h : m.inode n = Ino.none) : m.checkInode n = 0 := by
  obtain ⟨h1, h2, h3, h4, h5⟩ := inode_is h
  unfold checkInode
  rw [if_pos (show m.live n = false from h1), if_pos (show m.free n from ⟨h2, h3, h4, h5⟩)]
theorem slot_leads {m : Img} {d s k : Nat} (hn : m.named d s = true) (hk : m.ino d s = (k : Nat)) : m.leads (k : Int) d s = true := by
  unfold leads; rw [hn, hk]; simp
/-- a Write of inodes -/
theorem mends_inos (hn : now.check = 0) (hd : disk.check = 0) (hf : Fit now disk) (n : Nat) : (wInos now disk n 4).check = 0 := by
  have wn := well_iff.1 hn
  have wd := well_iff.1 hd
  have hr := wInos_rest now disk n 4
  have hm : Mixed now disk (wInos now disk n 4) := by
    constructor
    · intro k hk hl
      rcases wInos_cases now disk n k with ⟨x1, x2, x3⟩ | ⟨x1, x2⟩
      · obtain ⟨g1, g2, g3, g4, g5⟩ := inode_is x3
        rcases inodeAs_cases now disk k with ⟨c1, e⟩ | ⟨c1, c2, c3, e⟩ | ⟨c1, c2, e⟩ <;> rw [e] at g1 g2
        · exact .inl ⟨c1, g2⟩
        · exact .inr ⟨c2, g2⟩
        · rw [g1] at hl; cases hl
      · obtain ⟨g1, g2, _⟩ := inode_eq x2
        exact .inr ⟨by rw [← g1]; exact hl, g2⟩
    · intro k p hk hp hl
      rcases wInos_cases now disk n k with ⟨x1, x2, x3⟩ | ⟨x1, x2⟩
      · obtain ⟨g1, g2, g3, g4, g5⟩ := inode_is x3
        rcases inodeAs_cases now disk k with ⟨c1, e⟩ | ⟨c1, c2, c3, e⟩ | ⟨c1, c2, e⟩ <;> rw [e] at g1 g4 g5
        · have g : (wInos now disk n 4).part k p = partAs now disk k p := by
            match p, hp with
            | 0, _ => exact g4
            | 1, _ => exact g5
          rw [g]
          rcases partAs_cases now disk k p with y | ⟨y1, y2, y3⟩ | ⟨y1, y2, y3⟩
          · exact .inl y
          · exact .inr (.inr ⟨y1, y3⟩)
          · exact .inr (.inl ⟨c1, y3⟩)
        · right; right
          refine ⟨c2, ?_⟩
          match p, hp with
          | 0, _ => exact g4
          | 1, _ => exact g5
        · rw [g1] at hl; cases hl
      · obtain ⟨g1, g2, g3, g4⟩ := inode_eq x2
        exact .inr (.inr ⟨by rw [← g1]; exact hl, g4 p hp⟩)
  have htw := mixed_twice hn hd hf hm
  refine well_iff.2 ⟨fun d s hd' hs => ?_, fun k hk => ?_, htw.1, htw.2⟩
  · have h0 := wd.slot d s hd' hs
    have en : (wInos now disk n 4).named d s = disk.named d s := by unfold named; rw [hr.1]
    have ei : (wInos now disk n 4).ino d s = disk.ino d s := by rw [hr.2.1]
    have ee : (wInos now disk n 4).est d s = disk.est d s := by rw [hr.2.2.1]
    have efn : ∀ nm, (wInos now disk n 4).find d nm = disk.find d nm := fun nm => by unfold find; rw [hr.1]
    cases hnm : disk.named d s
    · unfold checkSlot at h0 ⊢
      rw [if_pos hnm] at h0
      rw [if_pos (by rw [en]; exact hnm), ei, ee]; exact h0
    · have k := (slot_ok hnm).1 h0
      obtain ⟨i, hi⟩ := Int.eq_ofNat_of_zero_le k.lo
      have hi8 : i < 8 := by have := k.hi; omega
      have hlv : disk.live i = true := by have := k.live; rwa [hi, Int.toNat_natCast] at this
      have hst : disk.stamp i = disk.est d s := by have := k.stamp; rwa [hi, Int.toNat_natCast] at this
      have hlead := slot_leads hnm hi
      have hpos := refs_pos_of_leads hd' hs hlead
      have key : (wInos now disk n 4).live i = true ∧ (wInos now disk n 4).stamp i = disk.stamp i := by
        rcases wInos_cases now disk n i with ⟨x1, x2, x3⟩ | ⟨x1, x2⟩
        · obtain ⟨g1, g2, _⟩ := inode_is x3
          rcases inodeAs_cases now disk i with ⟨c1, e⟩ | ⟨c1, c2, c3, e⟩ | ⟨c1, c2, e⟩ <;> rw [e] at g1 g2
          · refine ⟨g1, g2.trans ?_⟩
            by_cases es : now.stamp i = disk.stamp i
            · exact es
            · have := hf.other i hi8 c1 hlv es; omega
          · exact ⟨g1, g2⟩
          · exfalso
            rcases c2 with y | y
            · rw [hlv] at y; cases y
            · have := (uni_bounds now disk (i : Int)).2.1; omega
        · obtain ⟨g1, g2, _⟩ := inode_eq x2
          exact ⟨g1.trans hlv, g2⟩
      refine (slot_ok (by rw [en]; exact hnm)).2 ⟨by rw [hr.1]; exact k.nm, by rw [hr.1, efn]; exact k.first, by rw [ei]; exact k.lo, by rw [ei]; exact k.hi, ?_, ?_⟩
      · rw [ei, hi, Int.toNat_natCast]; exact key.1
      · rw [ei, ee, hi, Int.toNat_natCast, key.2]; exact hst
  · have hrefs := refs_of_dirs hr.1 hr.2.1 (k : Int)
    have hcp : ∀ p st, (wInos now disk n 4).checkPart p st = disk.checkPart p st := fun p st => by unfold checkPart; rw [hr.2.2.2.1]
    rcases wInos_cases now disk n k with ⟨x1, x2, x3⟩ | ⟨x1, x2⟩
    · obtain ⟨g1, g2, g3, g4, g5⟩ := inode_is x3
      have hub := (uni_bounds now disk (k : Int)).2.1
      rcases inodeAs_cases now disk k with ⟨c1, e⟩ | ⟨c1, c2, c3, e⟩ | ⟨c1, c2, e⟩
      · rw [e] at g1 g2 g3 g4 g5
        refine checkInode_live g1 (by rw [g2]; exact (inode_parts_ok hn hk c1).1) (by rw [hrefs, g3]; simp; omega) (fun p hp => ?_)
        have g : (wInos now disk n 4).part k p = partAs now disk k p := by
          match p, hp with
          | 0, _ => exact g4
          | 1, _ => exact g5
        rw [g, g2, hcp, checkPart_iff]
        rcases partAs_cases now disk k p with y | ⟨y1, y2, y3⟩ | ⟨y1, y2, y3⟩
        · exact .inl y
        · have := checkPart_iff.1 ((inode_parts_ok hd hk y1).2.2 p hp)
          rw [y3, ← y2]; exact this
        · rw [y3]; exact .inr ⟨y1, y2⟩
      · rw [e] at g1 g2 g3 g4 g5
        have ok := inode_parts_ok hd hk c2
        refine checkInode_live g1 (by rw [g2]; exact ok.1) (by rw [hrefs, g3]; simp; omega) (fun p hp => ?_)
        have g : (wInos now disk n 4).part k p = disk.part k p := by
          match p, hp with
          | 0, _ => exact g4
          | 1, _ => exact g5
        rw [g, g2, hcp]
        exact ok.2.2 p hp
      · rw [e] at x3
        exact checkInode_none x3
    · obtain ⟨g1, g2, g3, g4⟩ := inode_eq x2
      cases hl : disk.live k
      · refine checkInode_none ?_
        rw [x2]; exact inode_free_ok hd hk hl
      · have ok := inode_parts_ok hd hk hl
        exact checkInode_live (by rw [g1]; exact hl) (by rw [g2]; exact ok.1) (by rw [hrefs, g3]; exact ok.2.1) (fun p hp => by rw [g4 p hp, g2, hcp]; exact ok.2.2 p hp)
/-- a Write of a data -/
theorem mends_data (hd : disk.check = 0) (hf : Fit now disk) {x : Nat} (hx : x < 9) (o : ByteArray) : (disk.putData x (now.of x) o).check = 0 := by
  have wd := well_iff.1 hd
  refine well_iff.2 ⟨fun d s h1 h2 => wd.slot d s h1 h2, fun k hk => ?_, wd.stamps, wd.datas⟩
  cases hl : disk.live k
  · exact checkInode_none (m := disk.putData x (now.of x) o) (inode_free_ok hd hk hl : disk.inode k = _)
  · have ok := inode_parts_ok hd hk hl
    refine checkInode_live (m := disk.putData x (now.of x) o) hl ok.1 ok.2.1 (fun p hp => ?_)
    have h0 := checkPart_iff.1 (ok.2.2 p hp)
    rw [checkPart_iff]
    rcases h0 with e | ⟨e1, e2⟩
    · exact .inl e
    · refine .inr ⟨e1, ?_⟩
      show (if (disk.part k p).toNat = x then now.of x else disk.of (disk.part k p).toNat) = disk.stamp k
      by_cases e : (disk.part k p).toNat = x
      · rw [if_pos e, ← e2]
        have hb : 0 ≤ disk.part k p ∧ disk.part k p < 9 := by simpa [isD] using e1
        rw [e]
        exact hf.held x k p hx hk hp hl (by omega)
      · rw [if_neg e]; exact e2
theorem find_from {m : Img} {d s : Nat} (hs : s < 4) (h : ∀ j, j < s → (m.name d j).toList ≠ (m.name d s).toList) : m.find d (m.name d s).toList = s := by
  unfold find
  exact firstI_at (by simp) (fun j hj => by simp [h j hj]) hs
theorem names_apart {m : Img} (h : m.check = 0) {d s t : Nat} (hd : d < 3) (hs : s < 4) (ht : t < 4) (hne : t ≠ s) (hn : m.named d s = true) : (m.name d t).toList ≠ (m.name d s).toList := by
  intro e
  have hnt : m.named d t = true := by unfold named at hn ⊢; rw [e]; exact hn
  have h1 := find_self h hd hs hn
  have h2 := find_self h hd ht hnt
  rw [e] at h2; omega
/-- a name that comes -/
theorem mends_come {m : Img} (hn : now.check = 0) (hm : m.check = 0) {d s : Nat} (hd : d < 3) (hs : s < 4) (h1 : m.named d s = false) (h2 : mayCome m (now.ino d s) (now.est d s) = true)
    (hnm : now.named d s = true) (hap : ∀ t, t < 4 → t ≠ s → (m.name d t).toList ≠ (now.name d s).toList) : (m.putEnt d s (now.entry d s)).check = 0 := by
  have wm := well_iff.1 hm
  have wn := well_iff.1 hn
  obtain ⟨c1, c2, c3, c4, c5⟩ := mayCome_iff h2
  obtain ⟨i, hi⟩ := Int.eq_ofNat_of_zero_le c1
  rw [hi, Int.toNat_natCast] at c3 c4 c5
  have hrest : ∀ k : Nat, ((m.putEnt d s (now.entry d s)).refs k : Int) ≤ m.refs k + (if k = i then 1 else 0) := fun k => by
    have hr := putEnt_refs m (d := d) (s := s) (now.entry d s) (k : Int) hd hs
    rw [entry_leads, show m.leads (k : Int) d s = false by unfold leads; rw [h1]; rfl] at hr
    cases hl : now.leads (k : Int) d s
    · rw [hl] at hr; simp [b2n] at hr; split <;> omega
    · rw [hl] at hr
      have : now.ino d s = (k : Int) := by unfold leads at hl; simp at hl; exact hl.2
      rw [if_pos (by omega)]
      simp [b2n] at hr; omega
  have hname : ∀ d' s', ¬ (d' = d ∧ s' = s) → (m.putEnt d s (now.entry d s)).name d' s' = m.name d' s' := fun d' s' h => if_neg h
  have hname0 : (m.putEnt d s (now.entry d s)).name d s = now.name d s := if_pos ⟨rfl, rfl⟩
  have hino0 : (m.putEnt d s (now.entry d s)).ino d s = now.ino d s := if_pos ⟨rfl, rfl⟩
  have hest0 : (m.putEnt d s (now.entry d s)).est d s = now.est d s := if_pos ⟨rfl, rfl⟩
  refine well_iff.2 ⟨fun d' s' hd' hs' => ?_, fun k hk => ?_, wm.stamps, wm.datas⟩
  · by_cases e : d' = d ∧ s' = s
    · obtain ⟨rfl, rfl⟩ := e
      refine (slot_ok (by unfold named; rw [hname0]; exact hnm)).2 ⟨by rw [hname0]; exact ((slot_ok hnm).1 (wn.slot d' s' hd hs)).nm, ?_, by rw [hino0]; exact c1, by rw [hino0]; exact c2, ?_, ?_⟩
      · have := find_from (m := m.putEnt d' s' (now.entry d' s')) (d := d') hs (fun j hj => by rw [hname d' j (by omega), hname0]; exact hap j (by omega) (by omega))
        rw [this]; exact Int.le_refl _
      · rw [hino0, hi, Int.toNat_natCast]; exact c3
      · rw [hino0, hest0, hi, Int.toNat_natCast]; exact c4
    · have h0 := wm.slot d' s' hd' hs'
      have en : (m.putEnt d s (now.entry d s)).named d' s' = m.named d' s' := by unfold named; rw [hname d' s' e]
      have ei : (m.putEnt d s (now.entry d s)).ino d' s' = m.ino d' s' := if_neg e
      have ee : (m.putEnt d s (now.entry d s)).est d' s' = m.est d' s' := if_neg e
      cases hnm' : m.named d' s'
      · unfold checkSlot at h0 ⊢
        rw [if_pos hnm'] at h0
        rw [if_pos (by rw [en]; exact hnm'), ei, ee]; exact h0
      · have k := (slot_ok hnm').1 h0
        refine (slot_ok (by rw [en]; exact hnm')).2 ⟨by rw [hname d' s' e]; exact k.nm, ?_, by rw [ei]; exact k.lo, by rw [ei]; exact k.hi, by rw [ei]; exact k.live, by rw [ei, ee]; exact k.stamp⟩
        have := find_from (m := m.putEnt d s (now.entry d s)) (d := d') hs' (fun j hj => by
          rw [hname d' s' e]
          by_cases ej : d' = d ∧ j = s
          · obtain ⟨rfl, rfl⟩ := ej
            rw [hname0]
            exact fun y => hap s' hs' (fun z => e ⟨rfl, z⟩) y.symm
          · rw [hname d' j ej]
            exact names_apart hm hd' hs' (by omega) (by omega) hnm')
        rw [this]; exact Int.le_refl _
  · cases hl : m.live k
    · exact checkInode_none (m := m.putEnt d s (now.entry d s)) (inode_free_ok hm hk hl : m.inode k = _)
    · have ok := inode_parts_ok hm hk hl
      refine checkInode_live (m := m.putEnt d s (now.entry d s)) hl ok.1 ?_ ok.2.2
      have := hrest k
      show ((m.putEnt d s (now.entry d s)).refs k : Int) ≤ m.links k
      by_cases e : k = i
      · subst e; rw [if_pos rfl] at this; omega
      · rw [if_neg e] at this; have := ok.2.1; omega
/-- each slot ahead is as on the disk, as it is to be, or empty -/
structure Slots (now disk m : Img) (d s : Nat) : Prop where
  ok : m.check = 0
  done : ∀ t, t < s → m.name d t = disk.name d t ∨ m.name d t = now.name d t ∨ m.name d t = ⟨#[]⟩
theorem empty_unnamed {m : Img} (h : m.check = 0) {d s : Nat} (hd : d < 3) (hs : s < 4) (hn : m.named d s = false) : m.entry d s = Ent.none := by
  have h0 := (well_iff.1 h).slot d s hd hs
  unfold checkSlot at h0
  rw [if_pos hn] at h0
  by_cases e : m.ino d s = 0 ∧ m.est d s = 0
  · have : m.name d s = ⟨#[]⟩ := by
      refine bytes_ext ?_
      rw [empty_list]
      unfold named at hn
      simpa using hn
    unfold entry Ent.none; rw [this, e.1, e.2]
  · rw [if_neg e] at h0; simp at h0
theorem putEnt_none {m : Img} {d s : Nat} : m.putEnt d s Ent.none = m.clear d s := rfl
theorem mends_slots (hn : now.check = 0) (hd : disk.check = 0) (hf : Fit now disk) {d : Nat} (hd3 : d < 3) : ∀ s, s ≤ 4 → Slots now disk (wDir now disk d s) d s
  | 0, _ => ⟨hd, fun t ht => by omega⟩
  | s + 1, hs => by
    have ih := mends_slots hn hd hf hd3 s (by omega)
    have hst := wDir_entry_other now disk d (d' := d) (s' := s) s (.inr (Nat.le_refl _))
    have hw : wDir now disk d (s + 1) = (wDir now disk d s).putEnt d s (entryAs now (wDir now disk d s) d s) := rfl
    have rest : ∀ e : Ent, (wDir now disk d s).putEnt d s e = wDir now disk d (s + 1) → (e.name = disk.name d s ∨ e.name = now.name d s ∨ e.name = ⟨#[]⟩) → ∀ t, t < s + 1 → (wDir now disk d (s + 1)).name d t = disk.name d t ∨ (wDir now disk d (s + 1)).name d t = now.name d t ∨ (wDir now disk d (s + 1)).name d t = ⟨#[]⟩ := by
      intro e he hc t ht
      rw [← he]
      by_cases et : t = s
      · subst et
        have : ((wDir now disk d t).putEnt d t e).name d t = e.name := if_pos ⟨rfl, rfl⟩
        rw [this]; exact hc
      · have : ((wDir now disk d s).putEnt d s e).name d t = (wDir now disk d s).name d t := if_neg (by omega)
        rw [this]; exact ih.done t (by omega)
    rcases entryAs_cases now (wDir now disk d s) d s with e | ⟨h1, h2, e⟩ | ⟨h1, h2, e⟩
    · rw [e] at hw
      refine ⟨?_, rest _ hw.symm (.inl ?_)⟩
      · rw [hw, putEnt_self]; exact ih.ok
      · exact (named_entry hst).1
    · rw [e] at hw
      refine ⟨?_, rest _ hw.symm (.inr (.inl rfl))⟩
      rw [hw]
      cases hnm : now.named d s
      · rw [empty_unnamed hn hd3 (by omega) hnm, ← empty_unnamed ih.ok hd3 (by omega) h1, putEnt_self]
        exact ih.ok
      · refine mends_come hn ih.ok hd3 (by omega) h1 h2 hnm fun t ht hne => ?_
        by_cases hts : t < s
        · rcases ih.done t hts with y | y | y
          · rw [y]; exact hf.name d s t hd3 (by omega) ht hne hnm
          · rw [y]; exact names_apart hn hd3 (by omega) ht hne hnm
          · rw [y, empty_list]
            intro z
            unfold named at hnm
            rw [← z] at hnm; simp at hnm
        · have := (named_entry (wDir_entry_other now disk d (d' := d) (s' := t) s (.inr (by omega)))).1
          rw [this]; exact hf.name d s t hd3 (by omega) ht hne hnm
    · rw [e] at hw
      refine ⟨?_, rest _ hw.symm (.inr (.inr rfl))⟩
      rw [hw, putEnt_none]
      exact clear_check ih.ok hd3 (by omega)
theorem mends (hn : now.check = 0) (hd : disk.check = 0) (hf : Fit now disk) (b : Int) : (write now disk b).check = 0 := by
  rcases blocks b with h | ⟨k, hk, rfl⟩ | ⟨d, hd3, rfl⟩ | ⟨x, hx, rfl⟩
  · rw [write_out h]; exact hd
  · rw [write_ino hk]; exact mends_inos hn hd hf _
  · rw [write_dir hd3]; exact (mends_slots hn hd hf hd3 4 (by omega)).ok
  · rw [write_data hx]; exact mends_data hd hf hx _
end Img
end Go.Proofs.YtfpfpnhpbnnmfadGreatDoor
