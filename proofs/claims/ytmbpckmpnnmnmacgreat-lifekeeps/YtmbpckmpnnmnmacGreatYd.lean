/-
  Layer 5 as plain functions: a step in what is to be; what is Exact stays so. No Go in here.
-/
import Derived.Test.YtmbpckmpnnmnmacGreatDa
import Derived.Test.YtmbpckmpnnmnmacGreatYa
import Derived.Test.YtmbpckmpnnmnmacGreatIb
import Derived.Test.YtmbpckmpnnmnmacGreatYb
namespace Go.Proofs.YtmbpckmpnnmnmacGreat
namespace Img
open Idl (Stp chk)
/-- the inode to which a name leads; -1: none -/
def inoOf (m : Img) (d : Int) (s : ByteArray) : Int := if m.findAt d s.toList < 0 then -1 else m.ino d.toNat (m.findAt d s.toList).toNat
def noPlace (now disk : Img) (d : Int) (s : ByteArray) : Bool := decide (freeSlot now disk d < 0) || decide (0 ≤ disk.findAt d s.toList)
def scheck (now : Img) (x : Stp) : Int :=
  if chk x ≠ 0 then chk x
  else if x.kind = 1 then (if 0 ≤ inoOf now x.dir x.name then 4 else 0)
  else if inoOf now x.dir x.name < 0 then 5
  else if (x.kind = 2 ∨ x.kind = 4) ∧ 0 ≤ inoOf now x.toDir x.to then 4 else 0
def sfull (now disk : Img) (x : Stp) : Bool :=
  if x.kind = 1 then decide (freeIno now disk < 0) || noPlace now disk x.dir x.name
  else if x.kind = 2 ∨ x.kind = 4 then noPlace now disk x.toDir x.to
  else if x.kind = 5 then decide (now.part (inoOf now x.dir x.name).toNat x.p.toNat < 0) && decide (freeData now disk < 0)
  else false
def scode (now disk : Img) (x : Stp) : Int := if scheck now x ≠ 0 then scheck now x else if sfull now disk x = true then 6 else 0
/-- a file more, without a name -/
def started (now disk : Img) (last : Int) : Img := now.putIno (freeIno now disk).toNat ⟨true, last + 1, 0, -1, -1⟩
/-- a name more -/
def added (now disk : Img) (d : Int) (s : ByteArray) (n : Nat) : Img :=
  (now.putEnt d.toNat (freeSlot now disk d).toNat ⟨s, (n : Int), now.stamp n⟩).putIno n ⟨now.live n, now.stamp n, now.links n + 1, now.part n 0, now.part n 1⟩
/-- a name less -/
def dropped1 (now : Img) (d : Int) (s : ByteArray) : Img :=
  (now.clear d.toNat (now.findAt d s.toList).toNat).putIno (inoOf now d s).toNat ⟨now.live (inoOf now d s).toNat, now.stamp (inoOf now d s).toNat, now.links (inoOf now d s).toNat - 1, now.part (inoOf now d s).toNat 0, now.part (inoOf now d s).toNat 1⟩
def dropped (now : Img) (d : Int) (s : ByteArray) : Img :=
  if (dropped1 now d s).refs (inoOf now d s) = 0 then (dropped1 now d s).putIno (inoOf now d s).toNat Ino.none else dropped1 now d s
/-- a part of a file leads there -/
def setPart (m : Img) (n p : Nat) (v : Int) : Img := m.putIno n ⟨m.live n, m.stamp n, m.links n, if p = 0 then v else m.part n 0, if p = 1 then v else m.part n 1⟩
def putPart (now disk : Img) (n p : Nat) (t : ByteArray) : Img :=
  let m := if now.part n p < 0 then now.setPart n p (freeData now disk) else now
  m.putData (m.part n p).toNat (m.stamp n) t
def sstep (now disk : Img) (last : Int) (x : Stp) : Img :=
  if scode now disk x ≠ 0 then now
  else if x.kind = 1 then added (started now disk last) disk x.dir x.name (freeIno now disk).toNat
  else if x.kind = 2 then added now disk x.toDir x.to (inoOf now x.dir x.name).toNat
  else if x.kind = 3 then dropped now x.dir x.name
  else if x.kind = 4 then dropped (added now disk x.toDir x.to (inoOf now x.dir x.name).toNat) x.dir x.name
  else if x.kind = 5 then putPart now disk (inoOf now x.dir x.name).toNat x.p.toNat x.text
  else now.setPart (inoOf now x.dir x.name).toNat x.p.toNat (-1)
def slast (now disk : Img) (last : Int) (x : Stp) : Int := if scode now disk x = 0 ∧ x.kind = 1 then last + 1 else last
/-- what is to be, with its last Stamp -/
structure Good (now : Img) (last : Int) : Prop where
  ex : Ex now
  lo : 0 ≤ last
  last : ∀ n, n < 8 → now.live n = true → now.stamp n ≤ last
variable {now disk : Img} {last : Int}
/-! what is found -/
theorem findAt_none {m : Img} {d : Int} {s : ByteArray} (h : m.findAt d s.toList < 0) (hd : 0 ≤ d ∧ d < 3) (hs : s.toList.isEmpty = false) : ∀ t, t < 4 → (m.name d.toNat t).toList ≠ s.toList := by
  unfold findAt at h
  rw [if_pos ⟨hd.1, hd.2, hs⟩] at h
  unfold find at h
  rcases firstI_cases (fun t => (m.name d.toNat t).toList == s.toList) 4 with ⟨_, h2⟩ | ⟨k, hk, h1, _⟩
  · intro t ht e
    have := h2 t ht
    simp [e] at this
  · rw [h1] at h; omega
theorem findAt_some {m : Img} {d : Int} {s : ByteArray} (h : 0 ≤ m.findAt d s.toList) : (0 ≤ d ∧ d < 3) ∧ s.toList.isEmpty = false ∧ ∃ k : Nat, k < 4 ∧ m.findAt d s.toList = (k : Int) ∧ m.name d.toNat k = s ∧ m.named d.toNat k = true := by
  unfold findAt at h ⊢
  by_cases c : 0 ≤ d ∧ d < 3 ∧ s.toList.isEmpty = false
  · rw [if_pos c] at h ⊢
    unfold find at h ⊢
    rcases firstI_cases (fun t => (m.name d.toNat t).toList == s.toList) 4 with ⟨h1, _⟩ | ⟨k, hk, h1, h2, _⟩
    · rw [h1] at h; omega
    · have e : (m.name d.toNat k).toList = s.toList := by simpa using h2
      refine ⟨⟨c.1, c.2.1⟩, c.2.2, k, hk, h1, bytes_ext e, ?_⟩
      unfold named; rw [e, c.2.2]; rfl
  · rw [if_neg c] at h; omega
theorem inoOf_neg {m : Img} (hm : m.check = 0) {d : Int} {s : ByteArray} : inoOf m d s < 0 ↔ m.findAt d s.toList < 0 := by
  unfold inoOf
  by_cases h : m.findAt d s.toList < 0
  · rw [if_pos h]; simp [h]
  · rw [if_neg h]
    obtain ⟨hd, _, k, hk, e, _, hn⟩ := findAt_some (Int.not_lt.1 h)
    have ok := (slot_ok hn).1 ((well_iff.1 hm).slot d.toNat k (by omega) hk)
    have := ok.lo
    rw [e, Int.toNat_natCast]
    constructor
    · intro z; omega
    · intro z; omega
/-- a name that is there, and its inode -/
structure There (m : Img) (d : Int) (s : ByteArray) (k n : Nat) : Prop where
  d0 : 0 ≤ d
  d3 : d < 3
  ne : s.toList.isEmpty = false
  k4 : k < 4
  at_ : m.findAt d s.toList = (k : Int)
  nm : m.name d.toNat k = s
  named : m.named d.toNat k = true
  ino : m.ino d.toNat k = (n : Int)
  n8 : n < 8
  live : m.live n = true
  stamp : m.stamp n = m.est d.toNat k
  of : inoOf m d s = (n : Int)
theorem there {m : Img} (hm : m.check = 0) {d : Int} {s : ByteArray} (h : 0 ≤ inoOf m d s) : ∃ k n, There m d s k n := by
  have h0 : 0 ≤ m.findAt d s.toList := by
    have := inoOf_neg hm (d := d) (s := s)
    omega
  obtain ⟨hd, hs, k, hk, e, hnm, hn⟩ := findAt_some h0
  have ok := (slot_ok hn).1 ((well_iff.1 hm).slot d.toNat k (by omega) hk)
  obtain ⟨n, hi⟩ := Int.eq_ofNat_of_zero_le ok.lo
  have h1 := ok.hi
  have h2 := ok.live
  have h3 := ok.stamp
  rw [hi, Int.toNat_natCast] at h2 h3
  have hi' : m.ino d.toNat k = (n : Int) := hi
  refine ⟨k, n, hd.1, hd.2, hs, hk, e, hnm, hn, hi', by omega, h2, h3, ?_⟩
  unfold inoOf
  rw [if_neg (by omega), e, Int.toNat_natCast, hi']
/-! what is free -/
structure SlotAt (now disk : Img) (d : Int) (s : Nat) : Prop where
  d0 : 0 ≤ d
  d3 : d < 3
  s4 : s < 4
  eq : freeSlot now disk d = (s : Int)
  now : now.named d.toNat s = false
  disk : disk.named d.toNat s = false
theorem slotAt {d' : Int} (h : ¬ freeSlot now disk d' < 0) : ∃ s, SlotAt now disk d' s := by
  unfold freeSlot at h
  by_cases c : 0 ≤ d' ∧ d' < 3
  · rw [if_pos c] at h
    rcases firstI_cases (fun s => !now.named d'.toNat s && !disk.named d'.toNat s) 4 with ⟨h1, _⟩ | ⟨k, hk, h1, h2, _⟩
    · rw [h1] at h; omega
    · simp at h2
      exact ⟨k, c.1, c.2, hk, by unfold freeSlot; rw [if_pos c]; exact h1, h2.1, h2.2⟩
  · rw [if_neg c] at h; omega
theorem inoAt (h : ¬ freeIno now disk < 0) : ∃ n : Nat, n < 8 ∧ freeIno now disk = (n : Int) ∧ now.live n = false ∧ disk.refs (n : Int) = 0 := by
  unfold freeIno at h ⊢
  rcases firstI_cases (fun n => !now.live n && (disk.refs (n : Int) == 0)) 8 with ⟨h1, _⟩ | ⟨k, hk, h1, h2, _⟩
  · rw [h1] at h; omega
  · simp at h2
    exact ⟨k, hk, h1, h2.1, h2.2⟩
theorem dataAt (h : ¬ freeData now disk < 0) : ∃ x : Nat, x < 9 ∧ freeData now disk = (x : Int) ∧ now.holds (x : Int) = false ∧ disk.holds (x : Int) = false := by
  unfold freeData at h ⊢
  rcases firstI_cases (fun x => !now.holds (x : Int) && !disk.holds (x : Int)) 9 with ⟨h1, _⟩ | ⟨k, hk, h1, h2, _⟩
  · rw [h1] at h; omega
  · simp at h2
    exact ⟨k, hk, h1, h2.1, h2.2⟩
theorem holds_not {m : Img} {x : Nat} (hx : x < 9) (h : m.holds (x : Int) = false) {n p : Nat} (hn : n < 8) (hp : p < 2) (hl : m.live n = true) : m.part n p ≠ (x : Int) := by
  unfold holds at h
  have hD : isD (x : Int) = true := by simp [isD]; omega
  rw [hD, Bool.true_and, anyB_false] at h
  have := h n hn
  rw [hl, Bool.true_and] at this
  unfold hasPart at this
  rw [Bool.or_eq_false_iff] at this
  match p, hp with
  | 0, _ => simpa using this.1
  | 1, _ => simpa using this.2
/-! parts of two inodes, or of one, are apart -/
theorem part_ne {m : Img} (hm : m.check = 0) {n p k q : Nat} (hn : n < 8) (hp : p < 2) (hk : k < 8) (hq : q < 2) (hne : ¬ (n = k ∧ p = q)) (hl : m.live n = true) (hlk : m.live k = true) (hD : isD (m.part n p) = true) : m.part k q ≠ m.part n p := by
  have e1 : m.pa (2 * n + p) = m.part n p := by
    rw [pa_of_live (by rw [show (2 * n + p) / 2 = n by omega]; exact hl), show (2 * n + p) / 2 = n by omega, show (2 * n + p) % 2 = p by omega]
  have e2 : m.pa (2 * k + q) = m.part k q := by
    rw [pa_of_live (by rw [show (2 * k + q) / 2 = k by omega]; exact hlk), show (2 * k + q) / 2 = k by omega, show (2 * k + q) % 2 = q by omega]
  rw [← e1, ← e2]
  exact datas_ne (well_iff.1 hm).datas (by omega) (by omega) (by omega) (by rw [e1]; exact hD)
/-! another count -/
theorem putLinks_check {m : Img} (hm : m.check = 0) {n : Nat} (hn : n < 8) (hl : m.live n = true) (v : Int) (hv : (m.refs n : Int) ≤ v) : (m.putIno n ⟨m.live n, m.stamp n, v, m.part n 0, m.part n 1⟩).check = 0 := by
  have ok := inode_parts_ok hm hn hl
  refine putIno_check hm _ (.inr ⟨hl, ok.1, hv, fun p hp => ?_⟩) (fun d' s' _ _ _ => ⟨hl, rfl⟩) (fun _ k hk hne hlk => stamps_ne (well_iff.1 hm).stamps hk hn hne hlk hl) (fun _ k q p hk hq hp hne hlk hD => ?_) (fun _ hD => ?_)
  · match p, hp with
    | 0, _ => exact ok.2.2 0 (by omega)
    | 1, _ => exact ok.2.2 1 (by omega)
  · match p, hp with
    | 0, _ => exact part_ne hm hn (by omega) hk hq (by omega) hl hlk hD
    | 1, _ => exact part_ne hm hn (by omega) hk hq (by omega) hl hlk hD
  · exact fun z => part_ne hm hn (show 0 < 2 by omega) hn (show 1 < 2 by omega) (by omega) hl hl hD z.symm
/-! a name more -/
theorem added_ex (hm : now.check = 0) {d : Int} {s : ByteArray} {n k : Nat} (hS : SlotAt now disk d k) (hn : n < 8) (hl : now.live n = true) (hnm : isNmB s.toList = true) (ha : ∀ t, t < 4 → (now.name d.toNat t).toList ≠ s.toList)
    (hk : ∀ j, j < 8 → now.live j = true → now.links j = (now.refs j : Int)) (h1 : ∀ j, j < 8 → j ≠ n → now.live j = true → 1 ≤ now.links j) : Ex (added now disk d s n) := by
  have hrefs : ∀ ino : Int, (added now disk d s n).refs ino = now.refs ino + b2n ((n : Int) == ino) := fun ino => by
    unfold added
    rw [putIno_refs]
    have := putEnt_refs now (d := d.toNat) (s := (freeSlot now disk d).toNat) ⟨s, (n : Int), now.stamp n⟩ ino (by have := hS.d0; have := hS.d3; omega) (by rw [hS.eq]; have := hS.s4; omega)
    rw [hS.eq, Int.toNat_natCast, show now.leads ino d.toNat k = false by unfold leads; rw [hS.now]; rfl] at this
    have hne : s.toList.isEmpty = false := by
      cases hl : s.toList
      · rw [hl] at hnm; simp [isNmB] at hnm
      · rfl
    rw [show Ent.leads ⟨s, (n : Int), now.stamp n⟩ ino = ((n : Int) == ino) by unfold Ent.leads; rw [hne]; rfl] at this
    rw [hS.eq, Int.toNat_natCast]
    simpa [b2n] using this
  have hlv : ∀ j, (added now disk d s n).live j = now.live j := fun j => by
    show (if j = n then now.live n else now.live j) = _
    by_cases e : j = n
    · rw [if_pos e, e]
    · rw [if_neg e]
  have hlk : ∀ j, (added now disk d s n).links j = if j = n then now.links n + 1 else now.links j := fun j => rfl
  refine ⟨?_, fun j hj hlj => ?_⟩
  · -- the count first, then the name
    have c1 := putLinks_check hm hn hl (now.links n + 1) (by have := (inode_parts_ok hm hn hl).2.1; omega)
    have c2 := come_check c1 (d := d.toNat) (s := k) ⟨s, (n : Int), now.stamp n⟩ (by have := hS.d0; have := hS.d3; omega) hS.s4 hS.now hnm (by
      unfold mayCome
      have e1 : isI (n : Int) = true := by simp [isI]; omega
      have ok := inode_parts_ok hm hn hl
      simp only [e1, Bool.true_and, Int.toNat_natCast, putIno_refs, putIno_live, putIno_stamp, putIno_links, if_true, hl, beq_self_eq_true]
      simp; omega) (fun t ht _ => ha t ht)
    unfold added
    rw [hS.eq, Int.toNat_natCast]
    exact c2
  · rw [hlv] at hlj
    rw [hlk, hrefs]
    by_cases e : j = n
    · subst e
      rw [if_pos rfl]
      have := hk j hj hlj
      simp [b2n]; omega
    · rw [if_neg e]
      have := hk j hj hlj
      have := h1 j hj e hlj
      have : b2n ((n : Int) == (j : Int)) = 0 := by
        have : ((n : Int) == (j : Int)) = false := by simp; omega
        rw [this]; rfl
      omega
/-! a name less -/
theorem dropped_ex (hx : Ex now) {d : Int} {s : ByteArray} {k n : Nat} (hT : There now d s k n) : Ex (dropped now d s) := by
  have hd3 : d.toNat < 3 := by have := hT.d0; have := hT.d3; omega
  have c0 := clear_check hx.ok hd3 hT.k4
  have hlead : now.leads (n : Int) d.toNat k = true := slot_leads hT.named hT.ino
  have r1 := clear_refs_yes (m := now) (n : Int) hd3 hT.k4 hlead
  have r2 : ∀ j : Nat, j ≠ n → (now.clear d.toNat k).refs (j : Int) = now.refs (j : Int) := fun j hj => clear_refs_not (j : Int) (by
    unfold leads; rw [hT.ino]
    have : ((n : Int) == (j : Int)) = false := by simp; omega
    rw [this]; simp)
  have hl0 : (now.clear d.toNat k).live n = true := hT.live
  have lk := hx.links n hT.n8 hT.live
  have c1 := putLinks_check c0 hT.n8 hl0 (now.links n - 1) (by omega)
  have e1 : dropped1 now d s = (now.clear d.toNat k).putIno n ⟨(now.clear d.toNat k).live n, (now.clear d.toNat k).stamp n, now.links n - 1, (now.clear d.toNat k).part n 0, (now.clear d.toNat k).part n 1⟩ := by
    unfold dropped1
    rw [hT.of, hT.at_, Int.toNat_natCast, Int.toNat_natCast]
    rfl
  rw [← e1] at c1
  have er : ∀ j : Int, (dropped1 now d s).refs j = (now.clear d.toNat k).refs j := fun j => by rw [e1, putIno_refs]
  have ev : ∀ j, (dropped1 now d s).live j = now.live j := fun j => by
    rw [e1, putIno_live]
    by_cases e : j = n
    · rw [if_pos e, e]; rfl
    · rw [if_neg e]; rfl
  have el : ∀ j, (dropped1 now d s).links j = if j = n then now.links n - 1 else now.links j := fun j => by rw [e1]; rfl
  unfold dropped
  rw [hT.of, er, Int.toNat_natCast]
  by_cases z : (now.clear d.toNat k).refs (n : Int) = 0
  · rw [if_pos z]
    refine ⟨putIno_check c1 _ (.inl rfl) (fun d' s' hd' hs' hl => ?_) (fun h => by cases h) (fun h => by cases h) (fun h => by cases h), fun j hj hlj => ?_⟩
    · have := refs_pos_of_leads hd' hs' hl
      rw [er] at this; omega
    · rw [putIno_live] at hlj
      by_cases e : j = n
      · rw [if_pos e] at hlj; cases hlj
      · rw [if_neg e, ev] at hlj
        rw [putIno_links, if_neg e, putIno_refs, er, el, if_neg e, r2 j e]
        exact hx.links j hj hlj
  · rw [if_neg z]
    refine ⟨c1, fun j hj hlj => ?_⟩
    rw [ev] at hlj
    rw [el, er]
    by_cases e : j = n
    · subst e
      rw [if_pos rfl]; omega
    · rw [if_neg e, r2 j e]
      exact hx.links j hj hlj
/-! a part -/
theorem setPart_ex (hx : Ex now) {n p : Nat} (hn : n < 8) (hp : p < 2) (hl : now.live n = true) (v : Int) (hv : v = -1 ∨ (isD v = true ∧ now.of v.toNat = now.stamp n ∧ ∀ k q, k < 8 → q < 2 → now.live k = true → now.part k q ≠ v)) : Ex (now.setPart n p v) := by
  have hm := hx.ok
  have ok := inode_parts_ok hm hn hl
  have hlv : ∀ j, (now.setPart n p v).live j = now.live j := fun j => by
    unfold setPart; rw [putIno_live]
    by_cases e : j = n
    · rw [if_pos e, e]
    · rw [if_neg e]
  have hlk : ∀ j, (now.setPart n p v).links j = now.links j := fun j => by
    unfold setPart; rw [putIno_links]
    by_cases e : j = n
    · rw [if_pos e, e]
    · rw [if_neg e]
  have hpp : ∀ q, q < 2 → Ino.part ⟨now.live n, now.stamp n, now.links n, if p = 0 then v else now.part n 0, if p = 1 then v else now.part n 1⟩ q = if q = p then v else now.part n q := fun q hq => by
    unfold Ino.part
    match q, hq with
    | 0, _ => by_cases e : p = 0 <;> simp [e]; omega
    | 1, _ => by_cases e : p = 1 <;> simp [e]; omega
  refine ⟨putIno_check hm _ (.inr ⟨hl, ok.1, ok.2.1, fun q hq => ?_⟩) (fun d' s' _ _ _ => ⟨hl, rfl⟩) (fun _ k hk hne hlk => stamps_ne (well_iff.1 hm).stamps hk hn hne hlk hl) (fun _ k q r hk hq hr hne hlk hD => ?_) (fun _ hD => ?_), fun j hj hlj => ?_⟩
  · rw [hpp q hq]
    by_cases e : q = p
    · rw [if_pos e, checkPart_iff]
      rcases hv with z | ⟨z1, z2, _⟩
      · exact .inl z
      · exact .inr ⟨z1, z2⟩
    · rw [if_neg e]; exact ok.2.2 q hq
  · rw [hpp r hr] at hD ⊢
    by_cases e : r = p
    · rw [if_pos e] at hD ⊢
      rcases hv with z | ⟨_, _, z3⟩
      · rw [z] at hD; simp [isD] at hD
      · exact z3 k q hk hq hlk
    · rw [if_neg e] at hD ⊢
      exact part_ne hm hn hr hk hq (by omega) hl hlk hD
  · have h0 := hpp 0 (by omega)
    have h1 := hpp 1 (by omega)
    have e0 : Ino.part ⟨now.live n, now.stamp n, now.links n, if p = 0 then v else now.part n 0, if p = 1 then v else now.part n 1⟩ 0 = (if p = 0 then v else now.part n 0) := rfl
    intro hE
    have hE' : (if p = 0 then v else now.part n 0) = (if p = 1 then v else now.part n 1) := hE
    have hD' : isD (if p = 0 then v else now.part n 0) = true := hD
    by_cases e : p = 0
    · rw [if_pos e, if_neg (by omega)] at hE'
      rw [if_pos e] at hD'
      rcases hv with z | ⟨_, _, z3⟩
      · rw [z] at hD'; simp [isD] at hD'
      · exact z3 n 1 hn (by omega) hl hE'.symm
    · have e' : p = 1 := by omega
      rw [if_neg e, if_pos e'] at hE'
      rw [if_neg e] at hD'
      rcases hv with z | ⟨_, _, z3⟩
      · rw [hE', z] at hD'; simp [isD] at hD'
      · exact z3 n 0 hn (by omega) hl hE'
  · rw [hlv] at hlj
    rw [hlk, show (now.setPart n p v).refs (j : Int) = now.refs (j : Int) from putIno_refs _ _ _ _]
    exact hx.links j hj hlj
theorem setPart_at {n p : Nat} (hp : p < 2) (v : Int) : (now.setPart n p v).part n p = v := by
  unfold setPart
  rw [putIno_part, if_pos rfl]
  match p, hp with
  | 0, _ => rfl
  | 1, _ => rfl
theorem putData_ex (hx : Ex now) {x : Nat} (o : Int) (t : ByteArray) (h : ∀ n p, n < 8 → p < 2 → now.live n = true → now.part n p = (x : Int) → now.stamp n = o) : Ex (now.putData x o t) :=
  ⟨putData_check hx.ok o t h, fun n hn hl => hx.links n hn hl⟩
theorem putPart_ex (hx : Ex now) {n p : Nat} (hn : n < 8) (hp : p < 2) (hl : now.live n = true) (t : ByteArray) (hf : now.part n p < 0 → ¬ freeData now disk < 0) : Ex (putPart now disk n p t) := by
  unfold putPart
  by_cases e : now.part n p < 0
  · obtain ⟨x, hx9, ex, hh, _⟩ := dataAt (hf e)
    simp only [if_pos e, ex]
    rw [setPart_at hp, Int.toNat_natCast]
    have hst : (now.setPart n p (x : Int)).stamp n = now.stamp n := if_pos rfl
    rw [hst]
    have h1 := putData_ex hx (x := x) (now.stamp n) t (fun k q hk hq hlk z => absurd z (holds_not hx9 hh hk hq hlk))
    have h2 := setPart_ex h1 hn hp (show (now.putData x (now.stamp n) t).live n = true from hl) (x : Int) (.inr ⟨by simp [isD]; omega, by
      show (if ((x : Int)).toNat = x then now.stamp n else _) = now.stamp n
      rw [if_pos (by simp)], fun k q hk hq hlk => holds_not hx9 hh hk hq hlk⟩)
    exact h2
  · simp only [if_neg e]
    have ok := (checkPart_iff.1 ((inode_parts_ok hx.ok hn hl).2.2 p hp))
    rcases ok with z | ⟨z1, z2⟩
    · omega
    · have hb : 0 ≤ now.part n p ∧ now.part n p < 9 := by simpa [isD] using z1
      refine putData_ex hx _ t (fun k q hk hq hlk z => ?_)
      by_cases c : n = k ∧ p = q
      · rw [c.1]
      · exact absurd (by rw [z]; omega) (part_ne hx.ok hn hp hk hq c hl hlk z1)
/-! a file more -/
theorem started_check (hx : Ex now) (hlo : 0 ≤ last) (hla : ∀ n, n < 8 → now.live n = true → now.stamp n ≤ last) {n : Nat} (hl : now.live n = false) (he : freeIno now disk = (n : Int)) : (started now disk last).check = 0 := by
  unfold started
  rw [he, Int.toNat_natCast]
  have hr := dead_refs hx.ok hl
  refine putIno_check hx.ok _ (.inr ⟨rfl, by show 1 ≤ last + 1; omega, by rw [hr]; exact Int.le_refl _, fun p hp => ?_⟩) (fun d s hd hs h => ?_) (fun _ k hk hne hlk => ?_) (fun _ k q p _ _ hp _ _ hD => ?_) (fun _ hD => ?_)
  · match p, hp with
    | 0, _ => rfl
    | 1, _ => rfl
  · have := (slot_lead hx.ok hd hs h).2.1
    rw [hl] at this; cases this
  · have := hla k hk hlk
    show now.stamp k ≠ last + 1
    omega
  · exfalso
    match p, hp with
    | 0, _ => simp [Ino.part, isD] at hD
    | 1, _ => simp [Ino.part, isD] at hD
  · simp [isD] at hD
/-! what a code of 0 says -/
theorem chk_names {x : Stp} (h : chk x = 0) : 1 ≤ x.kind ∧ x.kind ≤ 6 ∧ (0 ≤ x.dir ∧ x.dir < 3) ∧ isNmB x.name.toList = true ∧ ((x.kind = 2 ∨ x.kind = 4) → (0 ≤ x.toDir ∧ x.toDir < 3) ∧ isNmB x.to.toList = true) ∧ ((x.kind = 5 ∨ x.kind = 6) → 0 ≤ x.p ∧ x.p < 2) := by
  obtain ⟨a1, a2, a3, a4, a5, a6⟩ := Idl.chk_zero h
  obtain ⟨b1, b2⟩ := Idl.spot_zero a3
  refine ⟨a1, a2, Idl.isD_iff.1 b1, b2, fun h2 => ?_, fun h5 => ?_⟩
  · obtain ⟨c1, c2⟩ := Idl.spot_zero (a4 h2)
    exact ⟨Idl.isD_iff.1 c1, c2⟩
  · exact a5 h5
theorem nm_ne {s : ByteArray} (h : isNmB s.toList = true) : s.toList.isEmpty = false := by
  cases hl : s.toList
  · rw [hl] at h; simp [isNmB] at h
  · rfl
structure Take (now disk : Img) (x : Stp) : Prop where
  chk : Idl.chk x = 0
  k1 : 1 ≤ x.kind
  k6 : x.kind ≤ 6
  dir : 0 ≤ x.dir ∧ x.dir < 3
  name : isNmB x.name.toList = true
  to : (x.kind = 2 ∨ x.kind = 4) → (0 ≤ x.toDir ∧ x.toDir < 3) ∧ isNmB x.to.toList = true
  part : (x.kind = 5 ∨ x.kind = 6) → 0 ≤ x.p ∧ x.p < 2
  new : x.kind = 1 → inoOf now x.dir x.name < 0
  old : x.kind ≠ 1 → 0 ≤ inoOf now x.dir x.name
  new2 : (x.kind = 2 ∨ x.kind = 4) → inoOf now x.toDir x.to < 0
  ino : x.kind = 1 → ¬ freeIno now disk < 0
  slot : x.kind = 1 → ¬ freeSlot now disk x.dir < 0 ∧ disk.findAt x.dir x.name.toList < 0
  slot2 : (x.kind = 2 ∨ x.kind = 4) → ¬ freeSlot now disk x.toDir < 0 ∧ disk.findAt x.toDir x.to.toList < 0
  data : x.kind = 5 → now.part (inoOf now x.dir x.name).toNat x.p.toNat < 0 → ¬ freeData now disk < 0
theorem take {x : Stp} (h : scode now disk x = 0) : Take now disk x := by
  have h0 : scheck now x = 0 := by
    unfold scode at h
    by_cases e : scheck now x = 0
    · exact e
    · rw [if_pos e] at h; exact absurd h e
  have h1 : sfull now disk x = false := by
    unfold scode at h
    rw [if_neg (by rw [h0]; simp)] at h
    cases e : sfull now disk x
    · rfl
    · rw [e] at h; simp at h
  have hc : chk x = 0 := by
    unfold scheck at h0
    by_cases e : chk x = 0
    · exact e
    · rw [if_pos e] at h0; exact absurd h0 e
  obtain ⟨a1, a2, a3, a4, a5, a6⟩ := chk_names hc
  have hs : (x.kind = 1 → inoOf now x.dir x.name < 0) ∧ (x.kind ≠ 1 → 0 ≤ inoOf now x.dir x.name) ∧ ((x.kind = 2 ∨ x.kind = 4) → inoOf now x.toDir x.to < 0) := by
    unfold scheck at h0
    rw [if_neg (by rw [hc]; simp)] at h0
    by_cases k1 : x.kind = 1
    · rw [if_pos k1] at h0
      refine ⟨fun _ => ?_, fun h => absurd k1 h, fun h => by omega⟩
      by_cases z : 0 ≤ inoOf now x.dir x.name
      · rw [if_pos z] at h0; simp at h0
      · omega
    · rw [if_neg k1] at h0
      by_cases z : inoOf now x.dir x.name < 0
      · rw [if_pos z] at h0; simp at h0
      · rw [if_neg z] at h0
        refine ⟨fun h => absurd h k1, fun _ => by omega, fun h2 => ?_⟩
        by_cases y : 0 ≤ inoOf now x.toDir x.to
        · rw [if_pos ⟨h2, y⟩] at h0; simp at h0
        · omega
  have hp : ∀ d s, noPlace now disk d s = false → ¬ freeSlot now disk d < 0 ∧ disk.findAt d s.toList < 0 := fun d s z => by
    unfold noPlace at z
    rw [Bool.or_eq_false_iff] at z
    have z1 := z.1
    have z2 := z.2
    simp only [decide_eq_false_iff_not] at z1 z2
    exact ⟨z1, by omega⟩
  refine ⟨hc, a1, a2, a3, a4, a5, a6, hs.1, hs.2.1, hs.2.2, fun k => ?_, fun k => ?_, fun k => ?_, fun k hneg => ?_⟩
  · unfold sfull at h1
    rw [if_pos k, Bool.or_eq_false_iff] at h1
    simpa using h1.1
  · unfold sfull at h1
    rw [if_pos k, Bool.or_eq_false_iff] at h1
    exact hp _ _ h1.2
  · unfold sfull at h1
    rw [if_neg (by omega), if_pos k] at h1
    exact hp _ _ h1
  · unfold sfull at h1
    rw [if_neg (by omega), if_neg (by omega), if_pos k, Bool.and_eq_false_iff] at h1
    rcases h1 with z | z
    · simp only [decide_eq_false_iff_not] at z; exact absurd hneg z
    · simpa using z
/-- how the step that is taken leaves what is to be -/
theorem sstep_cases {x : Stp} (h : scode now disk x = 0) :
    (x.kind = 1 ∧ sstep now disk last x = added (started now disk last) disk x.dir x.name (freeIno now disk).toNat) ∨ (x.kind = 2 ∧ sstep now disk last x = added now disk x.toDir x.to (inoOf now x.dir x.name).toNat) ∨
    (x.kind = 3 ∧ sstep now disk last x = dropped now x.dir x.name) ∨ (x.kind = 4 ∧ sstep now disk last x = dropped (added now disk x.toDir x.to (inoOf now x.dir x.name).toNat) x.dir x.name) ∨
    (x.kind = 5 ∧ sstep now disk last x = putPart now disk (inoOf now x.dir x.name).toNat x.p.toNat x.text) ∨ (x.kind = 6 ∧ sstep now disk last x = now.setPart (inoOf now x.dir x.name).toNat x.p.toNat (-1)) := by
  have t := take h
  have k1 := t.k1
  have k6 := t.k6
  unfold sstep
  rw [if_neg (by rw [h]; simp)]
  have : x.kind = 1 ∨ x.kind = 2 ∨ x.kind = 3 ∨ x.kind = 4 ∨ x.kind = 5 ∨ x.kind = 6 := by omega
  rcases this with k | k | k | k | k | k <;> simp [k]
end Img
end Go.Proofs.YtmbpckmpnnmnmacGreat
namespace Go.Proofs.YtmbpckmpnnmnmacGreat
namespace Img
open Idl (Stp chk)
variable {now disk : Img} {last : Int}
theorem added_live (d : Int) (s : ByteArray) (n j : Nat) : (added now disk d s n).live j = now.live j := by
  show (if j = n then now.live n else now.live j) = _
  by_cases e : j = n
  · rw [if_pos e, e]
  · rw [if_neg e]
theorem added_stamp (d : Int) (s : ByteArray) (n j : Nat) : (added now disk d s n).stamp j = now.stamp j := by
  show (if j = n then now.stamp n else now.stamp j) = _
  by_cases e : j = n
  · rw [if_pos e, e]
  · rw [if_neg e]
theorem added_name (d : Int) (s : ByteArray) (n : Nat) {k : Nat} (hS : SlotAt now disk d k) {e t : Nat} (h : now.named e t = true) : (added now disk d s n).entry e t = now.entry e t := by
  have : ¬ (e = d.toNat ∧ t = (freeSlot now disk d).toNat) := fun z => by
    rw [hS.eq, Int.toNat_natCast] at z
    have := hS.now
    rw [← z.1, ← z.2, h] at this; cases this
  exact putEnt_other now _ this
theorem added_at (d : Int) (s : ByteArray) (n : Nat) {k : Nat} (hS : SlotAt now disk d k) : (added now disk d s n).entry d.toNat k = ⟨s, (n : Int), now.stamp n⟩ := by
  have := putEnt_at now d.toNat k ⟨s, (n : Int), now.stamp n⟩
  unfold added
  rw [hS.eq, Int.toNat_natCast]
  exact this
theorem find_at {m : Img} (hm : m.check = 0) {d : Int} {s : ByteArray} {k : Nat} (hd : 0 ≤ d ∧ d < 3) (hk : k < 4) (hs : s.toList.isEmpty = false) (hn : m.name d.toNat k = s) : m.findAt d s.toList = (k : Int) := by
  unfold findAt
  rw [if_pos ⟨hd.1, hd.2, hs⟩]
  have := find_self (d := d.toNat) (s := k) hm (by omega) hk (by unfold named; rw [hn, hs]; rfl)
  rw [hn] at this
  exact this
/-- a name that was there is there still, where it was -/
theorem There.added {d : Int} {s : ByteArray} {k n : Nat} (hT : There now d s k n) {e : Int} {t : ByteArray} {n' k' : Nat} (hS : SlotAt now disk e k') (hm : (added now disk e t n').check = 0) : There (added now disk e t n') d s k n := by
  have h1 := added_name (disk := disk) e t n' hS hT.named
  obtain ⟨a1, a2, a3⟩ := named_entry h1
  have hat := find_at hm ⟨hT.d0, hT.d3⟩ hT.k4 hT.ne (a1.trans hT.nm)
  refine ⟨hT.d0, hT.d3, hT.ne, hT.k4, hat, a1.trans hT.nm, ?_, a2.trans hT.ino, hT.n8, by rw [added_live]; exact hT.live, by rw [added_stamp, a3]; exact hT.stamp, ?_⟩
  · unfold Img.named; rw [a1]; exact hT.named
  · unfold inoOf
    rw [if_neg (by rw [hat]; omega), hat, Int.toNat_natCast, a2, hT.ino]
theorem dropped_live {d : Int} {s : ByteArray} {j : Nat} (h : (dropped now d s).live j = true) : now.live j = true ∧ (dropped now d s).stamp j = now.stamp j := by
  have h1 : (dropped1 now d s).live j = now.live j ∧ (dropped1 now d s).stamp j = now.stamp j := by
    unfold dropped1
    rw [putIno_live, putIno_stamp]
    by_cases e : j = (inoOf now d s).toNat
    · rw [if_pos e, if_pos e, e]; exact ⟨rfl, rfl⟩
    · rw [if_neg e, if_neg e]; exact ⟨rfl, rfl⟩
  unfold dropped at h ⊢
  split at h
  · rename_i z
    rw [if_pos z]
    rw [putIno_live] at h
    by_cases e : j = (inoOf now d s).toNat
    · rw [if_pos e] at h; cases h
    · rw [if_neg e, h1.1] at h
      rw [putIno_stamp, if_neg e]; exact ⟨h, h1.2⟩
  · rename_i z
    rw [if_neg z]
    rw [h1.1] at h
    exact ⟨h, h1.2⟩
theorem setPart_same (n p : Nat) (v : Int) (j : Nat) : (now.setPart n p v).live j = now.live j ∧ (now.setPart n p v).stamp j = now.stamp j := by
  unfold setPart
  rw [putIno_live, putIno_stamp]
  by_cases e : j = n
  · rw [if_pos e, if_pos e, e]; exact ⟨rfl, rfl⟩
  · rw [if_neg e, if_neg e]; exact ⟨rfl, rfl⟩
theorem putPart_same (n p : Nat) (t : ByteArray) (j : Nat) : (putPart now disk n p t).live j = now.live j ∧ (putPart now disk n p t).stamp j = now.stamp j := by
  unfold putPart
  by_cases e : now.part n p < 0
  · simp only [if_pos e]; exact setPart_same n p _ j
  · simp only [if_neg e]; exact ⟨rfl, rfl⟩
/-- the file that comes: all of it -/
structure Comes (now disk : Img) (last : Int) (x : Stp) (n k : Nat) : Prop where
  n8 : n < 8
  ino : freeIno now disk = (n : Int)
  dead : now.live n = false
  refs : disk.refs (n : Int) = 0
  slot : SlotAt now disk x.dir k
  slot' : SlotAt (started now disk last) disk x.dir k
  chk : (started now disk last).check = 0
  ex : Ex (added (started now disk last) disk x.dir x.name n)
theorem comes (hG : Good now last) {x : Stp} (h : scode now disk x = 0) (h1 : x.kind = 1) : ∃ n k, Comes now disk last x n k := by
  have t := take h
  obtain ⟨n, hn, he, hl, hr⟩ := inoAt (t.ino h1)
  obtain ⟨k, hS⟩ := slotAt (t.slot h1).1
  have hc := started_check (disk := disk) hG.ex hG.lo hG.last hl he
  have hS' : SlotAt (started now disk last) disk x.dir k := ⟨hS.d0, hS.d3, hS.s4, hS.eq, hS.now, hS.disk⟩
  have hrn := dead_refs hG.ex.ok hl
  have er : ∀ j : Int, (started now disk last).refs j = now.refs j := fun j => putIno_refs _ _ _ _
  have el : ∀ j, (started now disk last).live j = if j = n then true else now.live j := fun j => by unfold started; rw [he, Int.toNat_natCast]; rfl
  have ek : ∀ j, (started now disk last).links j = if j = n then 0 else now.links j := fun j => by unfold started; rw [he, Int.toNat_natCast]; rfl
  refine ⟨n, k, hn, he, hl, hr, hS, hS', hc, ?_⟩
  refine added_ex hc hS' hn (by rw [el, if_pos rfl]) t.name (fun u hu => ?_) (fun j hj hlj => ?_) (fun j hj hne hlj => ?_)
  · have := findAt_none (m := now) (d := x.dir) (s := x.name) ((inoOf_neg hG.ex.ok).1 (t.new h1)) t.dir (nm_ne t.name) u hu
    exact this
  · rw [ek, er]
    by_cases e : j = n
    · rw [if_pos e, e, hrn]; rfl
    · rw [if_neg e]
      rw [el, if_neg e] at hlj
      exact (hG.ex.links j hj hlj).1
  · rw [ek, if_neg hne]
    rw [el, if_neg hne] at hlj
    exact (hG.ex.links j hj hlj).2
theorem linked (hG : Good now last) {x : Stp} (h : scode now disk x = 0) (h2 : x.kind = 2 ∨ x.kind = 4) : ∃ k n k', There now x.dir x.name k n ∧ SlotAt now disk x.toDir k' ∧ Ex (added now disk x.toDir x.to n) := by
  have t := take h
  obtain ⟨k, n, hT⟩ := there hG.ex.ok (t.old (by omega))
  obtain ⟨k', hS⟩ := slotAt (t.slot2 h2).1
  refine ⟨k, n, k', hT, hS, added_ex hG.ex.ok hS hT.n8 hT.live (t.to h2).2 (fun u hu => ?_) (fun j hj hlj => (hG.ex.links j hj hlj).1) (fun j hj _ hlj => (hG.ex.links j hj hlj).2)⟩
  exact findAt_none (m := now) (d := x.toDir) (s := x.to) ((inoOf_neg hG.ex.ok).1 (t.new2 h2)) (t.to h2).1 (nm_ne (t.to h2).2) u hu
theorem good_step (hG : Good now last) (x : Stp) : Good (sstep now disk last x) (slast now disk last x) := by
  by_cases h : scode now disk x = 0
  · have t := take h
    rcases sstep_cases (last := last) h with ⟨k, e⟩ | ⟨k, e⟩ | ⟨k, e⟩ | ⟨k, e⟩ | ⟨k, e⟩ | ⟨k, e⟩
    · obtain ⟨n, s, hc⟩ := comes hG h k
      have el : slast now disk last x = last + 1 := if_pos ⟨h, k⟩
      rw [e, el, hc.ino, Int.toNat_natCast]
      refine ⟨hc.ex, by have := hG.lo; omega, fun j hj hlj => ?_⟩
      rw [added_live] at hlj
      rw [added_stamp]
      unfold started at hlj ⊢
      rw [hc.ino, Int.toNat_natCast] at hlj ⊢
      rw [putIno_live] at hlj
      rw [putIno_stamp]
      by_cases ej : j = n
      · rw [if_pos ej]; exact Int.le_refl _
      · rw [if_neg ej] at hlj ⊢
        have := hG.last j hj hlj; omega
    all_goals have el : slast now disk last x = last := if_neg (fun z => by have := z.2; omega)
    all_goals rw [e, el]
    · obtain ⟨k', n, s, hT, hS, hx⟩ := linked hG h (.inl k)
      rw [hT.of, Int.toNat_natCast]
      exact ⟨hx, hG.lo, fun j hj hlj => by rw [added_live] at hlj; rw [added_stamp]; exact hG.last j hj hlj⟩
    · obtain ⟨k', n, hT⟩ := there hG.ex.ok (t.old (by omega))
      exact ⟨dropped_ex hG.ex hT, hG.lo, fun j hj hlj => by rw [(dropped_live hlj).2]; exact hG.last j hj (dropped_live hlj).1⟩
    · obtain ⟨k', n, s, hT, hS, hx⟩ := linked hG h (.inr k)
      rw [hT.of, Int.toNat_natCast]
      refine ⟨dropped_ex hx (hT.added hS hx.ok), hG.lo, fun j hj hlj => ?_⟩
      obtain ⟨a1, a2⟩ := dropped_live hlj
      rw [a2, added_stamp]
      rw [added_live] at a1
      exact hG.last j hj a1
    · obtain ⟨k', n, hT⟩ := there hG.ex.ok (t.old (by omega))
      have hp := t.part (.inl k)
      have hf := t.data k
      rw [hT.of, Int.toNat_natCast] at hf ⊢
      exact ⟨putPart_ex hG.ex hT.n8 (by omega) hT.live x.text hf, hG.lo, fun j hj hlj => by rw [(putPart_same _ _ _ j).1] at hlj; rw [(putPart_same _ _ _ j).2]; exact hG.last j hj hlj⟩
    · obtain ⟨k', n, hT⟩ := there hG.ex.ok (t.old (by omega))
      have hp := t.part (.inr k)
      rw [hT.of, Int.toNat_natCast]
      exact ⟨setPart_ex hG.ex hT.n8 (by omega) hT.live (-1) (.inl rfl), hG.lo, fun j hj hlj => by rw [(setPart_same _ _ _ j).1] at hlj; rw [(setPart_same _ _ _ j).2]; exact hG.last j hj hlj⟩
  · have e1 : sstep now disk last x = now := if_pos h
    have e2 : slast now disk last x = last := if_neg (fun z => h z.1)
    rw [e1, e2]; exact hG
end Img
end Go.Proofs.YtmbpckmpnnmnmacGreat
namespace Go.Proofs.YtmbpckmpnnmnmacGreat
namespace Img
variable {now disk : Img}
/-- an entry is not put where the disk has another one -/
def Slotty (now disk : Img) : Prop := ∀ d s, d < 3 → s < 4 → now.named d s = true → disk.named d s = true → now.entry d s = disk.entry d s
def DataAs (now disk : Img) : Prop := ∀ x, x < 9 → disk.of x = now.of x ∧ disk.text x = now.text x
/-- each entry is the disk's, or as it is to be, or none; inodes are the disk's -/
structure Mix (now E M : Img) : Prop where
  ent : ∀ d s, d < 3 → s < 4 → M.entry d s = E.entry d s ∨ M.entry d s = now.entry d s ∨ M.entry d s = Ent.none
  ino : ∀ n, n < 8 → M.inode n = E.inode n
  dat : M.of = E.of ∧ M.text = E.text
theorem Mix.refl (now E : Img) : Mix now E E := ⟨fun _ _ _ _ => .inl rfl, fun _ _ => rfl, rfl, rfl⟩
theorem none_unnamed {m : Img} {d s : Nat} (h : m.entry d s = Ent.none) : m.named d s = false := by
  have : m.name d s = ⟨#[]⟩ := by unfold entry Ent.none at h; injection h
  unfold named; rw [this, empty_list]; rfl
theorem named_of_entry {a b : Img} {d s : Nat} (h : a.entry d s = b.entry d s) : a.named d s = b.named d s := by
  unfold named; rw [(named_entry h).1]
theorem leads_of_entry {a b : Img} {d s : Nat} (h : a.entry d s = b.entry d s) (ino : Int) : a.leads ino d s = b.leads ino d s := by
  rw [← entry_leads, ← entry_leads, h]
theorem Mix.slotty {E M : Img} (h : Mix now E M) (hS : Slotty now E) : Slotty now M := fun d s hd hs h1 h2 => by
  rcases h.ent d s hd hs with e | e | e
  · rw [e]; exact hS d s hd hs h1 (by rw [← named_of_entry e]; exact h2)
  · exact e.symm
  · rw [none_unnamed e] at h2; cases h2
theorem entryAs_mix {E M : Img} (h : Mix now E M) {d s : Nat} (hd : d < 3) (hs : s < 4) : entryAs now M d s = E.entry d s ∨ entryAs now M d s = now.entry d s ∨ entryAs now M d s = Ent.none := by
  unfold entryAs
  split
  · exact h.ent d s hd hs
  · split
    · split
      · exact .inr (.inl rfl)
      · exact h.ent d s hd hs
    · split
      · exact .inr (.inr rfl)
      · exact h.ent d s hd hs
theorem Mix.put {E M : Img} (h : Mix now E M) {d s : Nat} (hd : d < 3) (hs : s < 4) : Mix now E (M.putEnt d s (entryAs now M d s)) := by
  refine ⟨fun d' s' hd' hs' => ?_, fun n hn => h.ino n hn, h.dat⟩
  by_cases e : d' = d ∧ s' = s
  · obtain ⟨rfl, rfl⟩ := e
    rw [putEnt_at]; exact entryAs_mix h hd hs
  · rw [putEnt_other M _ e]; exact h.ent d' s' hd' hs'
theorem Mix.wDir {E M : Img} (h : Mix now E M) {d : Nat} (hd : d < 3) : ∀ s, s ≤ 4 → Mix now E (wDir now M d s)
  | 0, _ => h
  | s + 1, hs => (Mix.wDir h hd s (by omega)).put hd (by omega)
/-! counts -/
theorem cnt_mono {p q : Nat → Bool} : ∀ {n : Nat}, (∀ j, j < n → p j = true → q j = true) → cnt p n ≤ cnt q n
  | 0, _ => Nat.le_refl _
  | n + 1, h => by
    have h1 := cnt_mono (p := p) (q := q) (n := n) (fun j hj => h j (by omega))
    unfold cnt
    cases hp : p n
    · simp; omega
    · rw [h n (by omega) hp]; simp; omega
theorem cnt_lt {p q : Nat → Bool} {s : Nat} (hp : p s = false) (hq : q s = true) : ∀ {n : Nat}, s < n → (∀ j, j < n → p j = true → q j = true) → cnt p n < cnt q n
  | 0, hs, _ => by omega
  | n + 1, hs, h => by
    by_cases e : s = n
    · subst e
      have h1 := cnt_mono (p := p) (q := q) (n := s) (fun j hj => h j (by omega))
      unfold cnt
      rw [hp, hq]; simp; omega
    · have h1 := cnt_lt hp hq (n := n) (by omega) (fun j hj => h j (by omega))
      unfold cnt
      cases hpn : p n
      · simp; omega
      · rw [h n (by omega) hpn]; simp; omega
theorem refs_lt_uni {E M : Img} {ino : Int} (h : ∀ d s, d < 3 → s < 4 → M.leads ino d s = true → both now E ino d s = true) {d s : Nat} (hd : d < 3) (hs : s < 4) (h1 : M.leads ino d s = false) (h2 : both now E ino d s = true) : M.refs ino < uni now E ino := by
  have hle : ∀ k, k ≤ 3 → M.refsTo ino k ≤ uniTo now E ino k := fun k => by
    induction k with
    | zero => intro _; exact Nat.le_refl _
    | succ k ih =>
      intro hk
      have := ih (by omega)
      have := cnt_mono (p := M.leads ino k) (q := both now E ino k) (n := 4) (fun j hj => h k j (by omega) hj)
      unfold refsTo uniTo; omega
  have hlt : ∀ k, k ≤ 3 → d < k → M.refsTo ino k < uniTo now E ino k := fun k => by
    induction k with
    | zero => intro _ h; omega
    | succ k ih =>
      intro hk hdk
      unfold refsTo uniTo
      by_cases e : d = k
      · subst e
        have := hle d (by omega)
        have := cnt_lt (p := M.leads ino d) (q := both now E ino d) h1 h2 (n := 4) hs (fun j hj => h d j (by omega) hj)
        omega
      · have := ih (by omega) (by omega)
        have := cnt_mono (p := M.leads ino k) (q := both now E ino k) (n := 4) (fun j hj => h k j (by omega) hj)
        omega
  exact hlt 3 (Nat.le_refl _) hd
theorem uni_congr {a a' b b' : Img} {ino : Int} (ha : ∀ d s, d < 3 → s < 4 → a.leads ino d s = a'.leads ino d s) (hb : ∀ d s, d < 3 → s < 4 → b.leads ino d s = b'.leads ino d s) : uni a b ino = uni a' b' ino := by
  have : ∀ k, k ≤ 3 → uniTo a b ino k = uniTo a' b' ino k := fun k => by
    induction k with
    | zero => intro _; rfl
    | succ k ih =>
      intro hk
      unfold uniTo
      rw [ih (by omega), cnt_congr (p := both a b ino k) (q := both a' b' ino k) (fun j hj => by unfold both; rw [ha k j (by omega) hj, hb k j (by omega) hj])]
  exact this 3 (Nat.le_refl _)
/-- behind all blocks, once -/
structure Round (now E : Img) : Prop where
  dat : DataAs now E
  live : ∀ n, n < 8 → now.live n = true → E.inode n = ⟨true, now.stamp n, uni now E n, now.part n 0, now.part n 1⟩
  dead : ∀ n, n < 8 → now.live n = false → uni now E n = 0 → E.inode n = Ino.none
  slot : Slotty now E
/-- a name that is to come comes -/
theorem come {E M : Img} (hn : now.check = 0) (hR : Round now E) (hM : Mix now E M) {d s : Nat} (hd : d < 3) (hs : s < 4) (hnm : now.named d s = true) : entryAs now M d s = now.entry d s := by
  unfold entryAs
  by_cases e1 : sameEnt now M d s = true
  · rw [if_pos e1]; exact (sameEnt_eq e1).symm
  · rw [if_neg e1]
    have hu : M.named d s = false := by
      cases e : M.named d s
      · rfl
      · exact absurd (sameEnt_of (hM.slotty hR.slot d s hd hs hnm e)) e1
    rw [if_pos hu]
    have ok := (slot_ok hnm).1 ((well_iff.1 hn).slot d s hd hs)
    obtain ⟨i, hi⟩ := Int.eq_ofNat_of_zero_le ok.lo
    have hi8 : i < 8 := by have := ok.hi; omega
    have hi' : now.ino d s = (i : Int) := hi
    have hl : now.live i = true := by have := ok.live; rwa [hi', Int.toNat_natCast] at this
    have hst : now.stamp i = now.est d s := by have := ok.stamp; rwa [hi', Int.toNat_natCast] at this
    obtain ⟨g1, g2, g3, _, _⟩ := inode_is ((hM.ino i hi8).trans (hR.live i hi8 hl))
    have hlead : now.leads (i : Int) d s = true := slot_leads hnm hi'
    have hlt : M.refs (i : Int) < uni now E (i : Int) := by
      refine refs_lt_uni (fun d' s' hd' hs' h => ?_) hd hs (by unfold leads; rw [hu]; rfl) (by unfold both; rw [hlead]; rfl)
      unfold both
      rcases hM.ent d' s' hd' hs' with e | e | e
      · rw [← leads_of_entry e, h]; simp
      · rw [← leads_of_entry e, h]; simp
      · rw [← entry_leads, e, none_leads] at h; cases h
    have hc : mayCome M (now.ino d s) (now.est d s) = true := by
      unfold mayCome
      have e1 : isI (i : Int) = true := by simp [isI]; omega
      rw [hi', e1, Int.toNat_natCast, g1, g2, g3, hst]
      simp; omega
    rw [if_pos hc]
/-- all names that are to be are there -/
def Full (now M : Img) : Prop := ∀ d s, d < 3 → s < 4 → now.named d s = true → M.entry d s = now.entry d s
/-- and one that is to go goes then -/
theorem go {M : Img} (hF : Full now M) {d s : Nat} (hd : d < 3) (hs : s < 4) (hne : now.entry d s = Ent.none) (hnm : now.named d s = false) (hm : M.named d s = false → M.entry d s = Ent.none) : entryAs now M d s = Ent.none := by
  unfold entryAs
  by_cases e1 : sameEnt now M d s = true
  · rw [if_pos e1, ← sameEnt_eq e1]; exact hne
  · rw [if_neg e1]
    by_cases e2 : M.named d s = false
    · exact absurd (sameEnt_of (hne.trans (hm e2).symm)) e1
    · rw [if_neg e2]
      have e2' : M.named d s = true := by simpa using e2
      have hg : mayGo now M (M.ino d s) = true := by
        unfold mayGo
        by_cases z : now.refs (M.ino d s) = 0
        · simp [z]
        · rw [Bool.or_eq_true]; left
          have hx : ¬ ∀ d' s', d' < 3 → s' < 4 → now.leads (M.ino d s) d' s' = false := fun h => z (refs_zero_iff.2 h)
          have hl : M.leads (M.ino d s) d s = true := by unfold leads; rw [e2']; simp
          have hc := clear_refs_yes (m := M) (M.ino d s) hd hs hl
          have : 0 < (M.clear d s).refs (M.ino d s) := by
            cases e : decide ((M.clear d s).refs (M.ino d s) = 0)
            · simp at e; omega
            · exfalso
              have e0 : (M.clear d s).refs (M.ino d s) = 0 := by simpa using e
              apply hx
              intro d' s' hd' hs'
              cases e3 : now.leads (M.ino d s) d' s'
              · rfl
              · exfalso
                have hn' : now.named d' s' = true := by unfold leads at e3; simp at e3; exact e3.1
                have hne' : ¬ (d' = d ∧ s' = s) := fun q => by rw [q.1, q.2, hnm] at hn'; cases hn'
                have := refs_pos_of_leads (m := M.clear d s) hd' hs' (by rw [clear_leads _ hne', leads_of_entry (hF d' s' hd' hs' hn'), e3])
                omega
          simp; omega
      rw [if_pos hg]
/-- a directory written: names come -/
theorem wDir_come {E M : Img} (hn : now.check = 0) (hR : Round now E) (hM : Mix now E M) {d : Nat} (hd : d < 3) : ∀ s, s ≤ 4 → ∀ t, t < s → now.named d t = true → (wDir now M d s).entry d t = now.entry d t := by
  intro s hs t ht hnm
  rw [wDir_entry_done now M d s t ht]
  exact come hn hR (hM.wDir hd t (by omega)) hd (by omega) hnm
theorem wDir_full {E M : Img} (hn : now.check = 0) (hR : Round now E) (hM : Mix now E M) (hF : Full now M) {d : Nat} (hd : d < 3) (s : Nat) (hs : s ≤ 4) : Full now (wDir now M d s) := fun d' s' hd' hs' hnm => by
  by_cases e : d' ≠ d ∨ s ≤ s'
  · rw [wDir_entry_other now M d s e]; exact hF d' s' hd' hs' hnm
  · have e1 : d' = d := by omega
    subst e1
    exact wDir_come hn hR hM hd s hs s' (by omega) hnm
/-- empty slots of a disk are empty -/
def Empties (M : Img) : Prop := ∀ d s, d < 3 → s < 4 → M.named d s = false → M.entry d s = Ent.none
theorem Mix.empties {E M : Img} (h : Mix now E M) (h1 : Empties E) (h2 : Empties now) : Empties M := fun d s hd hs hu => by
  rcases h.ent d s hd hs with e | e | e
  · rw [e]; exact h1 d s hd hs (by rw [← named_of_entry e]; exact hu)
  · rw [e]; exact h2 d s hd hs (by rw [← named_of_entry e]; exact hu)
  · exact e
theorem wDir_gone {E M : Img} (hn : now.check = 0) (hR : Round now E) (hM : Mix now E M) (hF : Full now M) (hE : Empties E) {d : Nat} (hd : d < 3) {t : Nat} (ht : t < 4) (hnm : now.named d t = false) : (wDir now M d 4).entry d t = now.entry d t := by
  have h2 : Empties now := fun d s hd hs hu => empty_unnamed hn hd hs hu
  have hne := h2 d t hd ht hnm
  rw [wDir_entry_done now M d 4 t ht, hne]
  exact go (wDir_full hn hR hM hF hd t (by omega)) hd ht hne hnm ((hM.wDir hd t (by omega)).empties hE h2 d t hd ht)
/-! all data, all directories, all inodes -/
def dnF (f : Img → Int → Img) : Nat → Img → Img
  | 0, D => D
  | b + 1, D => dnF f b (f D (b : Int))
theorem dnF_succ (f : Img → Int → Img) (b : Nat) (D : Img) : dnF f (b + 1) D = dnF f b (f D (b : Int)) := rfl
theorem down_dnF (now : Img) : ∀ b D, down now D b = dnF (write now) b D
  | 0, _ => rfl
  | b + 1, D => by unfold down; rw [down_dnF now b, dnF_succ]
def datF (f : Img → Int → Img) : Nat → Img → Img
  | 0, D => D
  | k + 1, D => datF f k (f D ((5 + k : Nat) : Int))
theorem datF_succ (f : Img → Int → Img) (k : Nat) (D : Img) : datF f (k + 1) D = datF f k (f D ((5 + k : Nat) : Int)) := rfl
theorem dnF_dat (f : Img → Int → Img) : ∀ k D, dnF f (5 + k) D = dnF f 5 (datF f k D)
  | 0, _ => rfl
  | k + 1, D => by rw [← Nat.add_assoc, dnF_succ, dnF_dat f k, datF_succ]
theorem dnF_five (f : Img → Int → Img) (D : Img) : dnF f 5 D = f (f (f (f (f D ((4 : Nat) : Int)) ((3 : Nat) : Int)) ((2 : Nat) : Int)) ((1 : Nat) : Int)) ((0 : Nat) : Int) := rfl
def dat (now D : Img) (k : Nat) : Img := datF (write now) k D
theorem dat_succ (now D : Img) (k : Nat) : dat now D (k + 1) = dat now (write now D ((5 + k : Nat) : Int)) k := by unfold dat; rw [datF_succ]
theorem dat_rest (now : Img) : ∀ k D, k ≤ 9 → (∀ d s, (dat now D k).entry d s = D.entry d s) ∧ (∀ n, (dat now D k).inode n = D.inode n) ∧ ∀ x, x < 9 → (x < k ∨ (D.of x = now.of x ∧ D.text x = now.text x)) → (dat now D k).of x = now.of x ∧ (dat now D k).text x = now.text x
  | 0, D, _ => ⟨fun _ _ => rfl, fun _ => rfl, fun x _ h => by
      rcases h with h | h
      · omega
      · exact h⟩
  | k + 1, D, hk => by
    obtain ⟨h1, h2, h3⟩ := dat_rest now k (write now D ((5 + k : Nat) : Int)) (by omega)
    have hw := write_data (now := now) (disk := D) (x := k) (by omega)
    rw [Nat.add_comm k 5] at hw
    rw [dat_succ]
    refine ⟨fun d s => by rw [h1, hw]; rfl, fun n => by rw [h2, hw]; rfl, fun x hx h => h3 x hx ?_⟩
    by_cases e : x = k
    · right
      subst e
      rw [hw]
      exact ⟨if_pos rfl, if_pos rfl⟩
    · rcases h with h | h
      · left; omega
      · right
        rw [hw]
        exact ⟨(if_neg e).trans h.1, (if_neg e).trans h.2⟩
def dirs (now M : Img) : Img := wDir now (wDir now (wDir now M 2 4) 1 4) 0 4
def inos (now M : Img) : Img := wInos now (wInos now M 4 4) 0 4
theorem down_is (now D : Img) : down now D 14 = inos now (dirs now (dat now D 9)) := by
  rw [down_dnF, show (14 : Nat) = 5 + 9 from rfl, dnF_dat, dnF_five]
  show _ = inos now (dirs now (datF (write now) 9 D))
  generalize datF (write now) 9 D = M
  have h4 : ∀ X : Img, write now X ((4 : Nat) : Int) = wDir now X 2 4 := fun X => write_dir (d := 2) (by omega)
  have h3 : ∀ X : Img, write now X ((3 : Nat) : Int) = wDir now X 1 4 := fun X => write_dir (d := 1) (by omega)
  have h2 : ∀ X : Img, write now X ((2 : Nat) : Int) = wDir now X 0 4 := fun X => write_dir (d := 0) (by omega)
  have h1 : ∀ X : Img, write now X ((1 : Nat) : Int) = wInos now X 4 4 := fun X => write_ino (k := 1) (by omega)
  have h0 : ∀ X : Img, write now X ((0 : Nat) : Int) = wInos now X 0 4 := fun X => write_ino (k := 0) (by omega)
  rw [h4, h3, h2, h1, h0]
  rfl
theorem inos_rest (now M : Img) : (inos now M).name = M.name ∧ (inos now M).ino = M.ino ∧ (inos now M).est = M.est ∧ (inos now M).of = M.of ∧ (inos now M).text = M.text := by
  unfold inos
  have h1 := wInos_rest now (wInos now M 4 4) 0 4
  have h2 := wInos_rest now M 4 4
  exact ⟨h1.1.trans h2.1, h1.2.1.trans h2.2.1, h1.2.2.1.trans h2.2.2.1, h1.2.2.2.1.trans h2.2.2.2.1, h1.2.2.2.2.trans h2.2.2.2.2⟩
/-- an inode of what is written depends on the disk's own, the names and the data alone -/
theorem inodeAs_congr {a b : Img} {n : Nat} (h1 : a.name = b.name) (h2 : a.ino = b.ino) (h3 : a.of = b.of) (hi : a.inode n = b.inode n) : inodeAs now a n = inodeAs now b n := by
  obtain ⟨g1, g2, g3, g4⟩ := inode_eq hi
  have hu := uni_of_dirs now h1 h2 (n : Int)
  have hp : ∀ p, p < 2 → partAs now a n p = partAs now b n p := fun p hp => by
    unfold partAs
    rw [h3, g1, g2, g4 p hp]
  unfold inodeAs
  rw [hu, hp 0 (by omega), hp 1 (by omega), g1, g2, g4 0 (by omega), g4 1 (by omega)]
theorem inos_at (now M : Img) {n : Nat} (hn : n < 8) : (inos now M).inode n = inodeAs now M n := by
  unfold inos
  have h2 := wInos_rest now M 4 4
  rcases wInos_cases now (wInos now M 4 4) 0 n with ⟨_, x2, x3⟩ | ⟨x1, x2⟩
  · rw [x3]
    refine inodeAs_congr h2.1 h2.2.1 h2.2.2.2.1 ?_
    exact wInos_other now M 4 4 (.inl (by omega))
  · rw [x2]
    rcases wInos_cases now M 4 n with ⟨_, _, y3⟩ | ⟨y1, _⟩
    · exact y3
    · omega
theorem partAs_now (hn : now.check = 0) {M : Img} (hd : DataAs now M) {n p : Nat} (hn8 : n < 8) (hp : p < 2) (hl : now.live n = true) : partAs now M n p = now.part n p := by
  have hc := checkPart_iff.1 ((inode_parts_ok hn hn8 hl).2.2 p hp)
  unfold partAs
  rcases hc with e | ⟨e1, e2⟩
  · rw [e]; simp [isD]
  · have hb : 0 ≤ now.part n p ∧ now.part n p < 9 := by simpa [isD] using e1
    rw [if_neg (by rw [e1]; simp), (hd (now.part n p).toNat (by omega)).1, if_pos e2]
theorem uni_inos (now M : Img) (ino : Int) : uni now (inos now M) ino = uni now M ino := uni_of_dirs now (inos_rest now M).1 (inos_rest now M).2.1 ino
theorem dirs_mix {E M : Img} (h : Mix now E M) : Mix now E (dirs now M) := ((h.wDir (by omega) 4 (by omega)).wDir (by omega) 4 (by omega)).wDir (by omega) 4 (by omega)
theorem round_of (hn : now.check = 0) {D : Img} (hS : Slotty now D) : Round now (down now D 14) := by
  rw [down_is]
  obtain ⟨a1, a2, a3⟩ := dat_rest now 9 D (Nat.le_refl _)
  have hS' : Slotty now (dat now D 9) := fun d s hd hs h1 h2 => by rw [a1]; exact hS d s hd hs h1 (by rw [← named_of_entry (a1 d s)]; exact h2)
  have hD : DataAs now (dat now D 9) := fun x hx => a3 x hx (.inl hx)
  have hM := dirs_mix (Mix.refl now (dat now D 9))
  have hD2 : DataAs now (dirs now (dat now D 9)) := fun x hx => by rw [hM.dat.1, hM.dat.2]; exact hD x hx
  have hr := inos_rest now (dirs now (dat now D 9))
  refine ⟨fun x hx => by rw [hr.2.2.2.1, hr.2.2.2.2]; exact hD2 x hx, fun n hn8 hl => ?_, fun n hn8 hl hu => ?_, fun d s hd hs h1 h2 => ?_⟩
  · rw [inos_at _ _ hn8, uni_inos]
    unfold inodeAs
    rw [if_pos hl, partAs_now hn hD2 hn8 (by omega) hl, partAs_now hn hD2 hn8 (by omega) hl]
  · rw [inos_at _ _ hn8]
    rw [uni_inos] at hu
    unfold inodeAs
    rw [if_neg (by rw [hl]; simp), if_neg (fun z => z.2 hu)]
  · have he : (inos now (dirs now (dat now D 9))).entry d s = (dirs now (dat now D 9)).entry d s := by unfold entry; rw [hr.1, hr.2.1, hr.2.2.1]
    rw [he]
    exact (hM.slotty hS') d s hd hs h1 (by rw [← named_of_entry he]; exact h2)
/-- behind the second time all names that are to be are there -/
theorem full_of (hn : now.check = 0) {E : Img} (hR : Round now E) : Full now (down now E 14) := by
  rw [down_is]
  obtain ⟨a1, a2, a3⟩ := dat_rest now 9 E (Nat.le_refl _)
  have hR' : Round now (dat now E 9) := by
    have hu : ∀ n : Nat, uni now (dat now E 9) n = uni now E n := fun n => uni_congr (fun _ _ _ _ => rfl) (fun d s _ _ => leads_of_entry (a1 d s) _)
    refine ⟨fun x hx => a3 x hx (.inl hx), fun n hn8 hl => by rw [a2, hu]; exact hR.live n hn8 hl, fun n hn8 hl h => by rw [a2]; exact hR.dead n hn8 hl (by rw [← hu]; exact h), fun d s hd hs h1 h2 => by rw [a1]; exact hR.slot d s hd hs h1 (by rw [← named_of_entry (a1 d s)]; exact h2)⟩
  have m0 := Mix.refl now (dat now E 9)
  have m1 := m0.wDir (d := 2) (by omega) 4 (by omega)
  have m2 := m1.wDir (d := 1) (by omega) 4 (by omega)
  have hr := inos_rest now (dirs now (dat now E 9))
  intro d s hd hs hnm
  have he : (inos now (dirs now (dat now E 9))).entry d s = (dirs now (dat now E 9)).entry d s := by unfold entry; rw [hr.1, hr.2.1, hr.2.2.1]
  rw [he]
  unfold dirs
  have hd' : d = 0 ∨ d = 1 ∨ d = 2 := by omega
  rcases hd' with rfl | rfl | rfl
  · exact wDir_come hn hR' m2 (by omega) 4 (by omega) s hs hnm
  · rw [wDir_entry_other now _ 0 4 (.inl (by omega))]
    exact wDir_come hn hR' m1 (by omega) 4 (by omega) s hs hnm
  · rw [wDir_entry_other now _ 0 4 (.inl (by omega)), wDir_entry_other now _ 1 4 (.inl (by omega))]
    exact wDir_come hn hR' m0 (by omega) 4 (by omega) s hs hnm
/-- behind the third time all lies as it is to -/
theorem done_of (hx : Ex now) {E : Img} (hR : Round now E) (hF : Full now E) (hE : Empties E) : Agree now (down now E 14) := by
  have hn := hx.ok
  rw [down_is]
  obtain ⟨a1, a2, a3⟩ := dat_rest now 9 E (Nat.le_refl _)
  have hR' : Round now (dat now E 9) := by
    have hu : ∀ n : Nat, uni now (dat now E 9) n = uni now E n := fun n => uni_congr (fun _ _ _ _ => rfl) (fun d s _ _ => leads_of_entry (a1 d s) _)
    refine ⟨fun x hx => a3 x hx (.inl hx), fun n hn8 hl => by rw [a2, hu]; exact hR.live n hn8 hl, fun n hn8 hl h => by rw [a2]; exact hR.dead n hn8 hl (by rw [← hu]; exact h), fun d s hd hs h1 h2 => by rw [a1]; exact hR.slot d s hd hs h1 (by rw [← named_of_entry (a1 d s)]; exact h2)⟩
  have hF' : Full now (dat now E 9) := fun d s hd hs h => by rw [a1]; exact hF d s hd hs h
  have hE' : Empties (dat now E 9) := fun d s hd hs h => by rw [a1]; exact hE d s hd hs (by rw [← named_of_entry (a1 d s)]; exact h)
  have m0 := Mix.refl now (dat now E 9)
  have m1 := m0.wDir (d := 2) (by omega) 4 (by omega)
  have m2 := m1.wDir (d := 1) (by omega) 4 (by omega)
  have m3 := m2.wDir (d := 0) (by omega) 4 (by omega)
  have f1 := wDir_full hn hR' m0 hF' (d := 2) (by omega) 4 (by omega)
  have f2 := wDir_full hn hR' m1 f1 (d := 1) (by omega) 4 (by omega)
  have f3 := wDir_full hn hR' m2 f2 (d := 0) (by omega) 4 (by omega)
  have hent : ∀ d s, d < 3 → s < 4 → (dirs now (dat now E 9)).entry d s = now.entry d s := fun d s hd hs => by
    cases hnm : now.named d s
    · unfold dirs
      have hd' : d = 0 ∨ d = 1 ∨ d = 2 := by omega
      rcases hd' with rfl | rfl | rfl
      · exact wDir_gone hn hR' m2 f2 hE' (by omega) hs hnm
      · rw [wDir_entry_other now _ 0 4 (.inl (by omega))]
        exact wDir_gone hn hR' m1 f1 hE' (by omega) hs hnm
      · rw [wDir_entry_other now _ 0 4 (.inl (by omega)), wDir_entry_other now _ 1 4 (.inl (by omega))]
        exact wDir_gone hn hR' m0 hF' hE' (by omega) hs hnm
    · exact f3 d s hd hs hnm
  have hr := inos_rest now (dirs now (dat now E 9))
  have hD2 : DataAs now (dirs now (dat now E 9)) := fun x hx => by
    have : Mix now (dat now E 9) (dirs now (dat now E 9)) := m3
    rw [this.dat.1, this.dat.2]; exact hR'.dat x hx
  have hun : ∀ n : Nat, uni now (dirs now (dat now E 9)) n = now.refs n := fun n => by
    rw [← uni_self now (n : Int)]
    exact uni_congr (fun _ _ _ _ => rfl) (fun d s hd hs => leads_of_entry (hent d s hd hs) _)
  refine .mk3 (fun n hn8 => ?_) (fun d s hd hs => ?_) (fun x hx9 => ?_)
  · rw [inos_at _ _ hn8]
    unfold inodeAs
    rw [hun]
    cases hl : now.live n
    · rw [if_neg (by simp), if_neg (fun z => z.2 (dead_refs hn hl)), inode_free_ok hn hn8 hl]
    · rw [if_pos rfl, partAs_now hn hD2 hn8 (by omega) hl, partAs_now hn hD2 hn8 (by omega) hl, ← (hx.links n hn8 hl).1]
      unfold inode; rw [hl]
  · have he : (inos now (dirs now (dat now E 9))).entry d s = (dirs now (dat now E 9)).entry d s := by unfold entry; rw [hr.1, hr.2.1, hr.2.2.1]
    rw [he, hent d s hd hs]
  · rw [hr.2.2.2.1, hr.2.2.2.2]
    exact ⟨(hD2 x hx9).1.symm, (hD2 x hx9).2.symm⟩
end Img
end Go.Proofs.YtmbpckmpnnmnmacGreat
namespace Go.Proofs.YtmbpckmpnnmnmacGreat
namespace Img
open Idl (Stp chk)
variable {now disk : Img} {last : Int}
structure Lies (now disk : Img) : Prop where
  slot : Slotty now disk
  free : Empties disk
theorem Slotty.sub {now' : Img} (h : Slotty now disk) (hs : ∀ e t, e < 3 → t < 4 → now'.entry e t = now.entry e t ∨ now'.named e t = false ∨ disk.named e t = false) : Slotty now' disk := fun e t he ht h1 h2 => by
  rcases hs e t he ht with z | z | z
  · rw [z]; exact h e t he ht (by rw [← named_of_entry z]; exact h1) h2
  · rw [z] at h1; cases h1
  · rw [z] at h2; cases h2
theorem Lies.write (hn : now.check = 0) (h : Lies now disk) (b : Int) : Lies now (Img.write now disk b) := by
  rcases blocks b with z | ⟨k, hk, rfl⟩ | ⟨d, hd, rfl⟩ | ⟨x, hx, rfl⟩
  · rw [write_out z]; exact h
  · rw [write_ino hk]
    have hr := wInos_rest now disk (k * 4) 4
    have he : ∀ d s, (wInos now disk (k * 4) 4).entry d s = disk.entry d s := fun d s => by unfold entry; rw [hr.1, hr.2.1, hr.2.2.1]
    exact ⟨fun d s hd hs h1 h2 => by rw [he]; exact h.slot d s hd hs h1 (by rw [← named_of_entry (he d s)]; exact h2), fun d s hd hs h1 => by rw [he]; exact h.free d s hd hs (by rw [← named_of_entry (he d s)]; exact h1)⟩
  · rw [write_dir hd]
    have hM := (Mix.refl now disk).wDir hd 4 (by omega)
    exact ⟨hM.slotty h.slot, hM.empties h.free (fun d s hd hs hu => empty_unnamed hn hd hs hu)⟩
  · rw [write_data hx]
    exact ⟨h.slot, h.free⟩
theorem Lies.down (hn : now.check = 0) : ∀ b {D : Img}, Lies now D → Lies now (Img.down now D b)
  | 0, _, h => h
  | b + 1, _, h => by unfold Img.down; exact Lies.down hn b (h.write hn _)
theorem Lies.syn (hn : now.check = 0) : ∀ f {D : Img}, Lies now D → Lies now (Img.syn now f D).2
  | 0, _, h => h
  | f + 1, D, h => by
    cases e : sameImg now D
    · rw [syn_step e]; exact Lies.syn hn f (h.down hn 14)
    · rw [syn_stop e]; exact h
theorem Lies.clean (hx : Ex now) {D : Img} (h : Lies now D) : Agree now (Img.syn now 8 D).2 := by
  have hn := hx.ok
  cases e : sameImg now D
  case true => rw [syn_stop e]; exact same_iff.1 e
  rw [syn_step e]
  have h1 := h.down hn 14
  have r1 := round_of hn h.slot
  generalize Img.down now D 14 = D1 at h1 r1
  show Agree now (Img.syn now 7 D1).2
  cases e1 : sameImg now D1
  case true => rw [syn_stop e1]; exact same_iff.1 e1
  rw [syn_step e1]
  have h2 := h1.down hn 14
  have r2 := round_of hn h1.slot
  have f2 := full_of hn r1
  generalize Img.down now D1 14 = D2 at h2 r2 f2
  show Agree now (Img.syn now 6 D2).2
  cases e2 : sameImg now D2
  case true => rw [syn_stop e2]; exact same_iff.1 e2
  rw [syn_step e2]
  have a3 := done_of hx r2 f2 h2.free
  generalize Img.down now D2 14 = D3 at a3
  show Agree now (Img.syn now 5 D3).2
  rw [syn_stop (same_iff.2 a3)]
  exact a3
theorem added_other (d : Int) (s : ByteArray) (n : Nat) {k : Nat} (hS : SlotAt now disk d k) {e t : Nat} (h : ¬ (e = d.toNat ∧ t = k)) : (added now disk d s n).entry e t = now.entry e t := by
  unfold added
  rw [hS.eq, Int.toNat_natCast]
  exact putEnt_other now _ h
theorem dropped_other (d : Int) (s : ByteArray) (e t : Nat) : (dropped now d s).entry e t = now.entry e t ∨ (dropped now d s).named e t = false := by
  have h1 : (dropped now d s).entry e t = (now.clear d.toNat (now.findAt d s.toList).toNat).entry e t := by
    unfold dropped
    split
    · rfl
    · rfl
  by_cases c : e = d.toNat ∧ t = (now.findAt d s.toList).toNat
  · right
    rw [named_of_entry h1, c.1, c.2]; exact clear_named_at
  · left
    rw [h1]; unfold entry; rw [clear_name c, clear_ino c, clear_est c]
theorem putPart_entry (n p : Nat) (t : ByteArray) (e s : Nat) : (putPart now disk n p t).entry e s = now.entry e s := by
  unfold putPart
  split
  · rfl
  · rfl
theorem slotty_added (h : Slotty now disk) (d : Int) (s : ByteArray) (n : Nat) {k : Nat} (hS : SlotAt now disk d k) : Slotty (added now disk d s n) disk := by
  refine h.sub fun e t _ _ => ?_
  by_cases c : e = d.toNat ∧ t = k
  · exact .inr (.inr (by rw [c.1, c.2]; exact hS.disk))
  · exact .inl (added_other d s n hS c)
theorem slotty_dropped (h : Slotty now disk) (d : Int) (s : ByteArray) : Slotty (dropped now d s) disk :=
  h.sub fun e t _ _ => (dropped_other d s e t).elim .inl (fun z => .inr (.inl z))
theorem Lies.step (hG : Good now last) (h : Lies now disk) (x : Stp) : Lies (sstep now disk last x) disk := by
  refine ⟨?_, h.free⟩
  by_cases h0 : scode now disk x = 0
  · have t := take h0
    rcases sstep_cases (last := last) h0 with ⟨k, e⟩ | ⟨k, e⟩ | ⟨k, e⟩ | ⟨k, e⟩ | ⟨k, e⟩ | ⟨k, e⟩
    · obtain ⟨n, s, hc⟩ := comes hG h0 k
      rw [e]
      exact slotty_added (now := started now disk last) (h.slot.sub fun _ _ _ _ => .inl rfl) _ _ _ hc.slot'
    · obtain ⟨k', n, s, hT, hS, hx⟩ := linked hG h0 (.inl k)
      rw [e]; exact slotty_added h.slot _ _ _ hS
    · rw [e]; exact slotty_dropped h.slot _ _
    · obtain ⟨k', n, s, hT, hS, hx⟩ := linked hG h0 (.inr k)
      rw [e]; exact slotty_dropped (slotty_added h.slot _ _ _ hS) _ _
    · rw [e]; exact h.slot.sub fun _ _ _ _ => .inl (putPart_entry _ _ _ _ _)
    · rw [e]; exact h.slot.sub fun _ _ _ _ => .inl rfl
  · have : sstep now disk last x = now := if_pos h0
    rw [this]; exact h.slot
theorem sstep_code {x : Stp} (h : scode now disk x ≠ 0) : sstep now disk last x = now := if_pos h
theorem slast_le (x : Stp) : slast now disk last x ≤ last + 1 := by
  unfold slast; split <;> omega
/-! is there room? -/
def roomI (m : Img) (x : Stp) : Bool := if x.kind = 2 ∨ x.kind = 4 then true else anyB (fun n => !m.live n) 8
def roomD (x : Stp) : Int := if x.kind = 2 ∨ x.kind = 4 then x.toDir else x.dir
def roomS (m : Img) (x : Stp) : Bool := decide (0 ≤ roomD x ∧ roomD x < 3) && anyB (fun s => !m.named (roomD x).toNat s) 4
def roomX (m : Img) : Bool := anyB (fun k => !m.held (k : Int)) 9
def room (m : Img) (x : Stp) : Bool := if x.kind = 5 then roomX m else roomI m x && roomS m x
theorem anyB_at {p : Nat → Bool} : ∀ {n : Nat}, anyB p n = true → ∃ k, k < n ∧ p k = true := fun {n} h => by
  by_cases e : ∃ k, k < n ∧ p k = true
  · exact e
  · have : anyB p n = false := anyB_false.2 fun j hj => by
      cases z : p j
      · rfl
      · exact absurd ⟨j, hj, z⟩ e
    rw [this] at h; cases h
theorem agree_named (ha : Agree now disk) {d s : Nat} (hd : d < 3) (hs : s < 4) : disk.named d s = now.named d s := by unfold named; rw [ha.name d s hd hs]
theorem place_of (hm : now.check = 0) (ha : Agree now disk) {d : Int} {s : ByteArray} (hd : 0 ≤ d ∧ d < 3) (hno : inoOf now d s < 0) (hs : anyB (fun s => !now.named d.toNat s) 4 = true) : noPlace now disk d s = false := by
  unfold noPlace
  rw [Bool.or_eq_false_iff]
  refine ⟨?_, ?_⟩
  · obtain ⟨k, hk, hp⟩ := anyB_at hs
    have := ((first_free (p := fun s => !now.named d.toNat s && !disk.named d.toNat s) (n := 4)).2.2 k hk).2 (by simp only [agree_named ha (d := d.toNat) (s := k) (by omega) hk]; simpa using hp)
    unfold freeSlot
    rw [if_pos hd]
    simp only [decide_eq_false_iff_not]; omega
  · simp only [decide_eq_false_iff_not]
    intro z
    obtain ⟨_, hne, k, hk, _, hnm, _⟩ := findAt_some z
    have := findAt_none ((inoOf_neg hm).1 hno) hd hne k hk
    rw [ha.name d.toNat k (by omega) hk, hnm] at this
    exact this rfl
theorem spot_ne (d : Int) (s : ByteArray) : Idl.spot d s ≠ 6 := by
  unfold Idl.spot; repeat' split
  all_goals simp
theorem scheck_ne (x : Stp) : scheck now x ≠ 6 := by
  have h1 := spot_ne x.dir x.name
  have h2 := spot_ne x.toDir x.to
  have : chk x ≠ 6 := by
    unfold Idl.chk
    repeat' split
    all_goals first | assumption | simp
  unfold scheck
  repeat' split
  all_goals first | assumption | simp
theorem scheck_zero {x : Stp} (h0 : scheck now x = 0) : chk x = 0 ∧ (x.kind = 1 → inoOf now x.dir x.name < 0) ∧ ((x.kind = 2 ∨ x.kind = 4) → inoOf now x.toDir x.to < 0) := by
  have hc : chk x = 0 := by
    unfold scheck at h0
    by_cases e : chk x = 0
    · exact e
    · rw [if_pos e] at h0; exact absurd h0 e
  unfold scheck at h0
  rw [if_neg (by rw [hc]; simp)] at h0
  by_cases k1 : x.kind = 1
  · rw [if_pos k1] at h0
    refine ⟨hc, fun _ => ?_, fun h => by omega⟩
    by_cases z : 0 ≤ inoOf now x.dir x.name
    · rw [if_pos z] at h0; simp at h0
    · omega
  · rw [if_neg k1] at h0
    by_cases z : inoOf now x.dir x.name < 0
    · rw [if_pos z] at h0; simp at h0
    · rw [if_neg z] at h0
      refine ⟨hc, fun h => absurd h k1, fun h2 => ?_⟩
      by_cases y : 0 ≤ inoOf now x.toDir x.to
      · rw [if_pos ⟨h2, y⟩] at h0; simp at h0
      · omega
/-- full behind Sync: there is no room at all -/
theorem full_room (hm : now.check = 0) (ha : Agree now disk) {x : Stp} (h : scode now disk x = 6) : room now x = false := by
  have h0 : scheck now x = 0 := by
    unfold scode at h
    by_cases e : scheck now x = 0
    · exact e
    · rw [if_pos e] at h; exact absurd h (scheck_ne x)
  have hf : sfull now disk x = true := by
    unfold scode at h
    rw [if_neg (by rw [h0]; simp)] at h
    cases e : sfull now disk x
    · rw [e] at h; simp at h
    · rfl
  obtain ⟨hc, n1, n2⟩ := scheck_zero h0
  obtain ⟨a1, a2, a3, a4, a5, a6⟩ := chk_names hc
  cases hr : room now x
  · rfl
  exfalso
  unfold sfull at hf
  unfold room at hr
  by_cases k1 : x.kind = 1
  · rw [if_pos k1] at hf
    rw [if_neg (by omega), Bool.and_eq_true] at hr
    obtain ⟨r1, r2⟩ := hr
    unfold roomI at r1
    unfold roomS roomD at r2
    rw [if_neg (by omega)] at r1
    rw [if_neg (by omega), Bool.and_eq_true] at r2
    rw [place_of hm ha a3 (n1 k1) r2.2, Bool.or_false] at hf
    obtain ⟨n, hn, hp⟩ := anyB_at r1
    have hl : now.live n = false := by simpa using hp
    have hz : disk.refs (n : Int) = 0 := refs_zero_iff.2 fun d s hd hs => by
      have := refs_zero_iff.1 (dead_refs hm hl) d s hd hs
      unfold leads at this ⊢
      rw [agree_named ha hd hs, ← ha.ino d s hd hs]; exact this
    have := ((first_free (p := fun n => !now.live n && (disk.refs (n : Int) == 0)) (n := 8)).2.2 n hn).2 (by simp [hl, hz])
    unfold freeIno at hf
    simp only [decide_eq_true_eq] at hf
    omega
  · rw [if_neg k1] at hf
    by_cases k2 : x.kind = 2 ∨ x.kind = 4
    · rw [if_pos k2] at hf
      rw [if_neg (by omega), Bool.and_eq_true] at hr
      obtain ⟨_, r2⟩ := hr
      unfold roomS roomD at r2
      rw [if_pos k2, Bool.and_eq_true] at r2
      rw [place_of hm ha (a5 k2).1 (n2 k2) r2.2] at hf
      cases hf
    · rw [if_neg k2] at hf
      by_cases k5 : x.kind = 5
      · rw [if_pos k5, Bool.and_eq_true] at hf
        rw [if_pos k5] at hr
        obtain ⟨k, hk, hp⟩ := anyB_at hr
        rw [held_isD hk] at hp
        have e : disk.holds (k : Int) = now.holds (k : Int) := by
          unfold holds
          congr 1
          have : ∀ n, n < 8 → (disk.live n && disk.hasPart n (k : Int)) = (now.live n && now.hasPart n (k : Int)) := fun n hn => by
            unfold hasPart
            rw [ha.live n hn, ha.part n 0 hn (by omega), ha.part n 1 hn (by omega)]
          cases z : anyB (fun n => now.live n && now.hasPart n (k : Int)) 8
          · exact anyB_false.2 fun j hj => by rw [this j hj]; exact anyB_false.1 z j hj
          · obtain ⟨j, hj, hz⟩ := anyB_at z
            exact anyB_true hj (by rw [this j hj]; exact hz)
        have := ((first_free (p := fun x => !now.holds (x : Int) && !disk.holds (x : Int)) (n := 9)).2.2 k hk).2 (by simp only [e]; simpa using hp)
        have h2 := hf.2
        unfold freeData at h2
        simp only [decide_eq_true_eq] at h2
        omega
      · rw [if_neg k5] at hf; cases hf
end Img
end Go.Proofs.YtmbpckmpnnmnmacGreat
namespace Go.Proofs.YtmbpckmpnnmnmacGreat
open Idl (Stp)
/-- what a step that is none of files leaves of the disk -/
def Img.sdisk (m k : Img) (x : Stp) : Img := if x.kind = 7 then Img.write m k x.p else if x.kind = 8 then (Img.syn m 8 k).2 else k
theorem Img.Lies.sdisk {m k : Img} (hn : m.check = 0) (h : Img.Lies m k) (x : Stp) : Img.Lies m (Img.sdisk m k x) := by
  unfold Img.sdisk
  split
  · exact h.write hn _
  · split
    · exact h.syn hn 8
    · exact h
end Go.Proofs.YtmbpckmpnnmnmacGreat
