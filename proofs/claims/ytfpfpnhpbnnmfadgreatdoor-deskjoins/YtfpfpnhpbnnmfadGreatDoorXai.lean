/-
  Layer 5 as plain functions: a step in what is to be; what is Exact stays so. No Go in here.
-/
import Derived.Test.YtfpfpnhpbnnmfadGreatDoorXad
import Derived.Test.YtfpfpnhpbnnmfadGreatDoorXah
namespace Go.Proofs.YtfpfpnhpbnnmfadGreatDoor
namespace Img
open Idl (Stp chk)
/-- the inode to which a name leads; -1: none -/
def inoOf (m : Img) (d : Int) (s : ByteArray) : Int := if m.findAt d s.toList < 0 then -1 else m.ino d.toNat (m.findAt d s.toList).toNat
def noPlace (now disk : Img) (d : Int) (s : ByteArray) : Bool := decide (freeSlot now disk d < 0) || decide (0 ≤ disk.findAt d s.toList)
def scheck (now : Img) (x : Stp) : Int :=
  if chk x ≠ 0 then chk x
  else if x.kind = 1 then (if 0 ≤ inoOf now x.dir x.name then 4 else 0)
  else if inoOf now x.dir x.name < 0 then 5
  else if (x.kind = 2 ∨ x.kind = 4) ∧ 0 ≤ inoOf now x.toDir x.to then 4 else 0
def sfull (now disk : Img) (x : Stp) : Bool :=
  if x.kind = 1 then decide (freeIno now disk < 0) || noPlace now disk x.dir x.name
  else if x.kind = 2 ∨ x.kind = 4 then noPlace now disk x.toDir x.to
  else if x.kind = 5 then decide (now.part (inoOf now x.dir x.name).toNat x.p.toNat < 0) && decide (freeData now disk < 0)
  else false
def scode (now disk : Img) (x : Stp) : Int := if scheck now x ≠ 0 then scheck now x else if sfull now disk x = true then 6 else 0
/-- a file more, without a name -/
def started (now disk : Img) (last : Int) : Img := now.putIno (freeIno now disk).toNat ⟨true, last + 1, 0, -1, -1⟩
/-- a name more -/
def added (now disk : Img) (d : Int) (s : ByteArray) (n : Nat) : Img :=
  (now.putEnt d.toNat (freeSlot now disk d).toNat ⟨s, (n : Int), now.stamp n⟩).putIno n ⟨now.live n, now.stamp n, now.links n + 1, now.part n 0, now.part n 1⟩
/-- a name less -/
def dropped1 (now : Img) (d : Int) (s : ByteArray) : Img :=
  (now.clear d.toNat (now.findAt d s.toList).toNat).putIno (inoOf now d s).toNat ⟨now.live (inoOf now d s).toNat, now.stamp (inoOf now d s).toNat, now.links (inoOf now d s).toNat - 1, now.part (inoOf now d s).toNat 0, now.part (inoOf now d s).toNat 1⟩
def dropped (now : Img) (d : Int) (s : ByteArray) : Img :=
  if (dropped1 now d s).refs (inoOf now d s) = 0 then (dropped1 now d s).putIno (inoOf now d s).toNat Ino.none else dropped1 now d s
/-- a part of a file leads there -/
def setPart (m : Img) (n p : Nat) (v : Int) : Img := m.putIno n ⟨m.live n, m.stamp n, m.links n, if p = 0 then v else m.part n 0, if p = 1 then v else m.part n 1⟩
def putPart (now disk : Img) (n p : Nat) (t : ByteArray) : Img :=
  let m := if now.part n p < 0 then now.setPart n p (freeData now disk) else now
  m.putData (m.part n p).toNat (m.stamp n) t
def sstep (now disk : Img) (last : Int) (x : Stp) : Img :=
  if scode now disk x ≠ 0 then now
  else if x.kind = 1 then added (started now disk last) disk x.dir x.name (freeIno now disk).toNat
  else if x.kind = 2 then added now disk x.toDir x.to (inoOf now x.dir x.name).toNat
  else if x.kind = 3 then dropped now x.dir x.name
  else if x.kind = 4 then dropped (added now disk x.toDir x.to (inoOf now x.dir x.name).toNat) x.dir x.name
  else if x.kind = 5 then putPart now disk (inoOf now x.dir x.name).toNat x.p.toNat x.text
  else now.setPart (inoOf now x.dir x.name).toNat x.p.toNat (-1)
def slast (now disk : Img) (last : Int) (x : Stp) : Int := if scode now disk x = 0 ∧ x.kind = 1 then last + 1 else last
/-- what is to be, with its last Stamp -/
structure Good (now : Img) (last : Int) : Prop where
  ex : Ex now
  lo : 0 ≤ last
  last : ∀ n, n < 8 → now.live n = true → now.stamp n ≤ last
variable {now disk : Img} {last : Int}
/-! what is found -/
theorem findAt_none {m : Img} {d : Int} {s : ByteArray} (h : m.findAt d s.toList < 0) (hd : 0 ≤ d ∧ d < 3) (hs : s.toList.isEmpty = false) : ∀ t, t < 4 → (m.name d.toNat t).toList ≠ s.toList := by
  unfold findAt at h
  rw [if_pos ⟨hd.1, hd.2, hs⟩] at h
  unfold find at h
  rcases firstI_cases (fun t => (m.name d.toNat t).toList == s.toList) 4 with ⟨_, h2⟩ | ⟨k, hk, h1, _⟩
  · intro t ht e
    have := h2 t ht
    simp [e] at this
  · rw [h1] at h; omega
theorem findAt_some {m : Img} {d : Int} {s : ByteArray} (h : 0 ≤ m.findAt d s.toList) : (0 ≤ d ∧ d < 3) ∧ s.toList.isEmpty = false ∧ ∃ k : Nat, k < 4 ∧ m.findAt d s.toList = (k : Int) ∧ m.name d.toNat k = s ∧ m.named d.toNat k = true := by
  unfold findAt at h ⊢
  by_cases c : 0 ≤ d ∧ d < 3 ∧ s.toList.isEmpty = false
  · rw [if_pos c] at h ⊢
    unfold find at h ⊢
    rcases firstI_cases (fun t => (m.name d.toNat t).toList == s.toList) 4 with ⟨h1, _⟩ | ⟨k, hk, h1, h2, _⟩
    · rw [h1] at h; omega
    · have e : (m.name d.toNat k).toList = s.toList := by simpa using h2
      refine ⟨⟨c.1, c.2.1⟩, c.2.2, k, hk, h1, bytes_ext e, ?_⟩
      unfold named; rw [e, c.2.2]; rfl
  · rw [if_neg c] at h; omega
theorem inoOf_neg {m : Img} (hm : m.check = 0) {d : Int} {s : ByteArray} : inoOf m d s < 0 ↔ m.findAt d s.toList < 0 := by
  unfold inoOf
  by_cases h : m.findAt d s.toList < 0
  · rw [if_pos h]; simp [h]
  · rw [if_neg h]
    obtain ⟨hd, _, k, hk, e, _, hn⟩ := findAt_some (Int.not_lt.1 h)
    have ok := (slot_ok hn).1 ((well_iff.1 hm).slot d.toNat k (by omega) hk)
    have := ok.lo
    rw [e, Int.toNat_natCast]
    constructor
    · intro z; omega
    · intro z; omega
/-- a name that is there, and its inode -/
structure There (m : Img) (d : Int) (s : ByteArray) (k n : Nat) : Prop where
  d0 : 0 ≤ d
  d3 : d < 3
  ne : s.toList.isEmpty = false
  k4 : k < 4
  at_ : m.findAt d s.toList = (k : Int)
  nm : m.name d.toNat k = s
  named : m.named d.toNat k = true
  ino : m.ino d.toNat k = (n : Int)
  n8 : n < 8
  live : m.live n = true
  stamp : m.stamp n = m.est d.toNat k
  of : inoOf m d s = (n : Int)
theorem there {m : Img} (hm : m.check = 0) {d : Int} {s : ByteArray} (h : 0 ≤ inoOf m d s) : ∃ k n, There m d s k n := by
  have h0 : 0 ≤ m.findAt d s.toList := by
    have := inoOf_neg hm (d := d) (s := s)
    omega
  obtain ⟨hd, hs, k, hk, e, hnm, hn⟩ := findAt_some h0
  have ok := (slot_ok hn).1 ((well_iff.1 hm).slot d.toNat k (by omega) hk)
  obtain ⟨n, hi⟩ := Int.eq_ofNat_of_zero_le ok.lo
  have h1 := ok.hi
  have h2 := ok.live
  have h3 := ok.stamp
  rw [hi, Int.toNat_natCast] at h2 h3
  have hi' : m.ino d.toNat k = (n : Int) := hi
  refine ⟨k, n, hd.1, hd.2, hs, hk, e, hnm, hn, hi', by omega, h2, h3, ?_⟩
  unfold inoOf
  rw [if_neg (by omega), e, Int.toNat_natCast, hi']
/-! what is free -/
structure SlotAt (now disk : Img) (d : Int) (s : Nat) : Prop where
  d0 : 0 ≤ d
  d3 : d < 3
  s4 : s < 4
  eq : freeSlot now disk d = (s : Int)
  now : now.named d.toNat s = false
  disk : disk.named d.toNat s = false
theorem slotAt {d' : Int} (h : ¬ freeSlot now disk d' < 0) : ∃ s, SlotAt now disk d' s := by
  unfold freeSlot at h
  by_cases c : 0 ≤ d' ∧ d' < 3
  · rw [if_pos c] at h
    rcases firstI_cases (fun s => !now.named d'.toNat s && !disk.named d'.toNat s) 4 with ⟨h1, _⟩ | ⟨k, hk, h1, h2, _⟩
    · rw [h1] at h; omega
    · simp at h2
      exact ⟨k, c.1, c.2, hk, by unfold freeSlot; rw [if_pos c]; exact h1, h2.1, h2.2⟩
  · rw [if_neg c] at h; omega
theorem inoAt (h : ¬ freeIno now disk < 0) : ∃ n : Nat, n < 8 ∧ freeIno now disk = (n : Int) ∧ now.live n = false ∧ disk.refs (n : Int) = 0 := by
  unfold freeIno at h ⊢
  rcases firstI_cases (fun n => !now.live n && (disk.refs (n : Int) == 0)) 8 with ⟨h1, _⟩ | ⟨k, hk, h1, h2, _⟩
  · rw [h1] at h; omega
  · simp at h2
    exact ⟨k, hk, h1, h2.1, h2.2⟩
theorem dataAt (h : ¬ freeData now disk < 0) : ∃ x : Nat, x < 9 ∧ freeData now disk = (x : Int) ∧ now.holds (x : Int) = false ∧ disk.holds (x : Int) = false := by
  unfold freeData at h ⊢
  rcases firstI_cases (fun x => !now.holds (x : Int) && !disk.holds (x : Int)) 9 with ⟨h1, _⟩ | ⟨k, hk, h1, h2, _⟩
  · rw [h1] at h; omega
  · simp at h2
    exact ⟨k, hk, h1, h2.1, h2.2⟩
theorem holds_not {m : Img} {x : Nat} (hx : x < 9) (h : m.holds (x : Int) = false) {n p : Nat} (hn : n < 8) (hp : p < 2) (hl : m.live n = true) : m.part n p ≠ (x : Int) := by
  unfold holds at h
  have hD : isD (x : Int) = true := by simp [isD]; omega
  rw [hD, Bool.true_and, anyB_false] at h
  have := h n hn
  rw [hl, Bool.true_and] at this
  unfold hasPart at this
  rw [Bool.or_eq_false_iff] at this
  match p, hp with
  | 0, _ => simpa using this.1
  | 1, _ => simpa using this.2
/-! parts of two inodes, or of one, are apart -/
theorem part_ne {m : Img} (hm : m.check = 0) {n p k q : Nat} (hn : n < 8) (hp : p < 2) (hk : k < 8) (hq : q < 2) (hne : ¬ (n = k ∧ p = q)) (hl : m.live n = true) (hlk : m.live k = true) (hD : isD (m.part n p) = true) : m.part k q ≠ m.part n p := by
  have e1 : m.pa (2 * n + p) = m.part n p := by
    rw [pa_of_live (by rw [show (2 * n + p) / 2 = n by omega]; exact hl), show (2 * n + p) / 2 = n by omega, show (2 * n + p) % 2 = p by omega]
  have e2 : m.pa (2 * k + q) = m.part k q := by
    rw [pa_of_live (by rw [show (2 * k + q) / 2 = k by omega]; exact hlk), show (2 * k + q) / 2 = k by omega, show (2 * k + q) % 2 = q by omega]
  rw [← e1, ← e2]
  exact datas_ne (well_iff.1 hm).datas (by omega) (by omega) (by omega) (by rw [e1]; exact hD)
/-! another count -/
theorem putLinks_check {m : Img} (hm : m.check = 0) {n : Nat} (hn : n < 8) (hl : m.live n = true) (v : Int) (hv : (m.refs n : Int) ≤ v) : (m.putIno n ⟨m.live n, m.stamp n, v, m.part n 0, m.part n 1⟩).check = 0 := by
  have ok := inode_parts_ok hm hn hl
  refine putIno_check hm _ (.inr ⟨hl, ok.1, hv, fun p hp => ?_⟩) (fun d' s' _ _ _ => ⟨hl, rfl⟩) (fun _ k hk hne hlk => stamps_ne (well_iff.1 hm).stamps hk hn hne hlk hl) (fun _ k q p hk hq hp hne hlk hD => ?_) (fun _ hD => ?_)
  · match p, hp with
    | 0, _ => exact ok.2.2 0 (by omega)
    | 1, _ => exact ok.2.2 1 (by omega)
  · match p, hp with
    | 0, _ => exact part_ne hm hn (by omega) hk hq (by omega) hl hlk hD
    | 1, _ => exact part_ne hm hn (by omega) hk hq (by omega) hl hlk hD
  · exact fun z => part_ne hm hn (show 0 < 2 by omega) hn (show 1 < 2 by omega) (by omega) hl hl hD z.symm
/-! a name more -/
theorem added_ex (hm : now.check = 0) {d : Int} {s : ByteArray} {n k : Nat} (hS : SlotAt now disk d k) (hn : n < 8) (hl : now.live n = true) (hnm : isNmB s.toList = true) (ha : ∀ t, t < 4 → (now.name d.toNat t).toList ≠ s.toList)
    (hk : ∀ j, j < 8 → now.live j = true → now.links j = (now.refs j : Int)) (h1 : ∀ j, j < 8 → j ≠ n → now.live j = true → 1 ≤ now.links j) : Ex (added now disk d s n) := by
  have hrefs : ∀ ino : Int, (added now disk d s n).refs ino = now.refs ino + b2n ((n : Int) == ino) := fun ino => by
    unfold added
    rw [putIno_refs]
    have := putEnt_refs now (d := d.toNat) (s := (freeSlot now disk d).toNat) ⟨s, (n : Int), now.stamp n⟩ ino (by have := hS.d0; have := hS.d3; omega) (by rw [hS.eq]; have := hS.s4; omega)
    rw [hS.eq, Int.toNat_natCast, show now.leads ino d.toNat k = false by unfold leads; rw [hS.now]; rfl] at this
    have hne : s.toList.isEmpty = false := by
      cases hl : s.toList
      · rw [hl] at hnm; simp [isNmB] at hnm
      · rfl
    rw [show Ent.leads ⟨s, (n : Int), now.stamp n⟩ ino = ((n : Int) == ino) by unfold Ent.leads; rw [hne]; rfl] at this
    rw [hS.eq, Int.toNat_natCast]
    simpa [b2n] using this
  have hlv : ∀ j, (added now disk d s n).live j = now.live j := fun j => by
    show (if j = n then now.live n else now.live j) = _
    by_cases e : j = n
    · rw [if_pos e, e]
    · rw [if_neg e]
  have hlk : ∀ j, (added now disk d s n).links j = if j = n then now.links n + 1 else now.links j := fun j => rfl
  refine ⟨?_, fun j hj hlj => ?_⟩
  · -- the count first, then the name
    have c1 := putLinks_check hm hn hl (now.links n + 1) (by have := (inode_parts_ok hm hn hl).2.1; omega)
    have c2 := come_check c1 (d := d.toNat) (s := k) ⟨s, (n : Int), now.stamp n⟩ (by have := hS.d0; have := hS.d3; omega) hS.s4 hS.now hnm (by
      unfold mayCome
      have e1 : isI (n : Int) = true := by simp [isI]; omega
      have ok := inode_parts_ok hm hn hl
      simp only [e1, Bool.true_and, Int.toNat_natCast, putIno_refs, putIno_live, putIno_stamp, putIno_links, if_true, hl, beq_self_eq_true]
      simp; omega) (fun t ht _ => ha t ht)
    unfold added
    rw [hS.eq, Int.toNat_natCast]
    exact c2
  · rw [hlv] at hlj
    rw [hlk, hrefs]
    by_cases e : j = n
    · subst e
      rw [if_pos rfl]
      have := hk j hj hlj
      simp [b2n]; omega
    · rw [if_neg e]
      have := hk j hj hlj
      have := h1 j hj e hlj
      have : b2n ((n : Int) == (j : Int)) = 0 := by
        have : ((n : Int) == (j : Int)) = false := by simp; omega
        rw [this]; rfl
      omega
/-! a name less -/
theorem dropped_ex (hx : Ex now) {d : Int} {s : ByteArray} {k n : Nat} (hT : There now d s k n) : Ex (dropped now d s) := by
  have hd3 : d.toNat < 3 := by have := hT.d0; have := hT.d3; omega
  have c0 := clear_check hx.ok hd3 hT.k4
  have hlead : now.leads (n : Int) d.toNat k = true := slot_leads hT.named hT.ino
  have r1 := clear_refs_yes (m := now) (n : Int) hd3 hT.k4 hlead
  have r2 : ∀ j : Nat, j ≠ n → (now.clear d.toNat k).refs (j : Int) = now.refs (j : Int) := fun j hj => clear_refs_not (j : Int) (by
    unfold leads; rw [hT.ino]
    have : ((n : Int) == (j : Int)) = false := by simp; omega
    rw [this]; simp)
  have hl0 : (now.clear d.toNat k).live n = true := hT.live
  have lk := hx.links n hT.n8 hT.live
  have c1 := putLinks_check c0 hT.n8 hl0 (now.links n - 1) (by omega)
  have e1 : dropped1 now d s = (now.clear d.toNat k).putIno n ⟨(now.clear d.toNat k).live n, (now.clear d.toNat k).stamp n, now.links n - 1, (now.clear d.toNat k).part n 0, (now.clear d.toNat k).part n 1⟩ := by
    unfold dropped1
    rw [hT.of, hT.at_, Int.toNat_natCast, Int.toNat_natCast]
    rfl
  rw [← e1] at c1
  have er : ∀ j : Int, (dropped1 now d s).refs j = (now.clear d.toNat k).refs j := fun j => by rw [e1, putIno_refs]
  have ev : ∀ j, (dropped1 now d s).live j = now.live j := fun j => by
    rw [e1, putIno_live]
    by_cases e : j = n
    · rw [if_pos e, e]; rfl
    · rw [if_neg e]; rfl
  have el : ∀ j, (dropped1 now d s).links j = if j = n then now.links n - 1 else now.links j := fun j => by rw [e1]; rfl
  unfold dropped
  rw [hT.of, er, Int.toNat_natCast]
  by_cases z : (now.clear d.toNat k).refs (n : Int) = 0
  · rw [if_pos z]
    refine ⟨putIno_check c1 _ (.inl rfl) (fun d' s' hd' hs' hl => ?_) (fun h => by cases h) (fun h => by cases h) (fun h => by cases h), fun j hj hlj => ?_⟩
    · have := refs_pos_of_leads hd' hs' hl
      rw [er] at this; omega
    · rw [putIno_live] at hlj
      by_cases e : j = n
      · rw [if_pos e] at hlj; cases hlj
      · rw [if_neg e, ev] at hlj
        rw [putIno_links, if_neg e, putIno_refs, er, el, if_neg e, r2 j e]
        exact hx.links j hj hlj
  · rw [if_neg z]
    refine ⟨c1, fun j hj hlj => ?_⟩
    rw [ev] at hlj
    rw [el, er]
    by_cases e : j = n
    · subst e
      rw [if_pos rfl]; omega
    · rw [if_neg e, r2 j e]
      exact hx.links j hj hlj
/-! a part -/
theorem setPart_ex (hx : Ex now) {n p : Nat} (hn : n < 8) (hp : p < 2) (hl : now.live n = true) (v : Int) (hv : v = -1 ∨ (isD v = true ∧ now.of v.toNat = now.stamp n ∧ ∀ k q, k < 8 → q < 2 → now.live k = true → now.part k q ≠ v)) : Ex (now.setPart n p v) := by
  have hm := hx.ok
  have ok := inode_parts_ok hm hn hl
  have hlv : ∀ j, (now.setPart n p v).live j = now.live j := fun j => by
    unfold setPart; rw [putIno_live]
    by_cases e : j = n
    · rw [if_pos e, e]
    · rw [if_neg e]
  have hlk : ∀ j, (now.setPart n p v).links j = now.links j := fun j => by
    unfold setPart; rw [putIno_links]
    by_cases e : j = n
    · rw [if_pos e, e]
    · rw [if_neg e]
  have hpp : ∀ q, q < 2 → Ino.part ⟨now.live n, now.stamp n, now.links n, if p = 0 then v else now.part n 0, if p = 1 then v else now.part n 1⟩ q = if q = p then v else now.part n q := fun q hq => by
    unfold Ino.part
    match q, hq with
    | 0, _ => by_cases e : p = 0 <;> simp [e]; omega
    | 1, _ => by_cases e : p = 1 <;> simp [e]; omega
  refine ⟨putIno_check hm _ (.inr ⟨hl, ok.1, ok.2.1, fun q hq => ?_⟩) (fun d' s' _ _ _ => ⟨hl, rfl⟩) (fun _ k hk hne hlk => stamps_ne (well_iff.1 hm).stamps hk hn hne hlk hl) (fun _ k q r hk hq hr hne hlk hD => ?_) (fun _ hD => ?_), fun j hj hlj => ?_⟩
  · rw [hpp q hq]
    by_cases e : q = p
    · rw [if_pos e, checkPart_iff]
      rcases hv with z | ⟨z1, z2, _⟩
      · exact .inl z
      · exact .inr ⟨z1, z2⟩
    · rw [if_neg e]; exact ok.2.2 q hq
  · rw [hpp r hr] at hD ⊢
    by_cases e : r = p
    · rw [if_pos e] at hD ⊢
      rcases hv with z | ⟨_, _, z3⟩
      · rw [z] at hD; simp [isD] at hD
      · exact z3 k q hk hq hlk
    · rw [if_neg e] at hD ⊢
      exact part_ne hm hn hr hk hq (by omega) hl hlk hD
  · have h0 := hpp 0 (by omega)
    have h1 := hpp 1 (by omega)
    have e0 : Ino.part ⟨now.live n, now.stamp n, now.links n, if p = 0 then v else now.part n 0, if p = 1 then v else now.part n 1⟩ 0 = (if p = 0 then v else now.part n 0) := rfl
    intro hE
    have hE' : (if p = 0 then v else now.part n 0) = (if p = 1 then v else now.part n 1) := hE
    have hD' : isD (if p = 0 then v else now.part n 0) = true := hD
    by_cases e : p = 0
    · rw [if_pos e, if_neg (by omega)] at hE'
      rw [if_pos e] at hD'
      rcases hv with z | ⟨_, _, z3⟩
      · rw [z] at hD'; simp [isD] at hD'
      · exact z3 n 1 hn (by omega) hl hE'.symm
    · have e' : p = 1 := by omega
      rw [if_neg e, if_pos e'] at hE'
      rw [if_neg e] at hD'
      rcases hv with z | ⟨_, _, z3⟩
      · rw [hE', z] at hD'; simp [isD] at hD'
      · exact z3 n 0 hn (by omega) hl hE'
  · rw [hlv] at hlj
    rw [hlk, show (now.setPart n p v).refs (j : Int) = now.refs (j : Int) from putIno_refs _ _ _ _]
    exact hx.links j hj hlj
theorem setPart_at {n p : Nat} (hp : p < 2) (v : Int) : (now.setPart n p v).part n p = v := by
  unfold setPart
  rw [putIno_part, if_pos rfl]
  match p, hp with
  | 0, _ => rfl
  | 1, _ => rfl
theorem putData_ex (hx : Ex now) {x : Nat} (o : Int) (t : ByteArray) (h : ∀ n p, n < 8 → p < 2 → now.live n = true → now.part n p = (x : Int) → now.stamp n = o) : Ex (now.putData x o t) :=
  ⟨putData_check hx.ok o t h, fun n hn hl => hx.links n hn hl⟩
theorem putPart_ex (hx : Ex now) {n p : Nat} (hn : n < 8) (hp : p < 2) (hl : now.live n = true) (t : ByteArray) (hf : now.part n p < 0 → ¬ freeData now disk < 0) : Ex (putPart now disk n p t) := by
  unfold putPart
  by_cases e : now.part n p < 0
  · obtain ⟨x, hx9, ex, hh, _⟩ := dataAt (hf e)
    simp only [if_pos e, ex]
    rw [setPart_at hp, Int.toNat_natCast]
    have hst : (now.setPart n p (x : Int)).stamp n = now.stamp n := if_pos rfl
    rw [hst]
    have h1 := putData_ex hx (x := x) (now.stamp n) t (fun k q hk hq hlk z => absurd z (holds_not hx9 hh hk hq hlk))
    have h2 := setPart_ex h1 hn hp (show (now.putData x (now.stamp n) t).live n = true from hl) (x : Int) (.inr ⟨by simp [isD]; omega, by
      show (if ((x : Int)).toNat = x then now.stamp n else _) = now.stamp n
      rw [if_pos (by simp)], fun k q hk hq hlk => holds_not hx9 hh hk hq hlk⟩)
    exact h2
  · simp only [if_neg e]
    have ok := (checkPart_iff.1 ((inode_parts_ok hx.ok hn hl).2.2 p hp))
    rcases ok with z | ⟨z1, z2⟩
    · omega
    · have hb : 0 ≤ now.part n p ∧ now.part n p < 9 := by simpa [isD] using z1
      refine putData_ex hx _ t (fun k q hk hq hlk z => ?_)
      by_cases c : n = k ∧ p = q
      · rw [c.1]
      · exact absurd (by rw [z]; omega) (part_ne hx.ok hn hp hk hq c hl hlk z1)
/-! a file more -/
theorem started_check (hx : Ex now) (hlo : 0 ≤ last) (hla : ∀ n, n < 8 → now.live n = true → now.stamp n ≤ last) {n : Nat} (hl : now.live n = false) (he : freeIno now disk = (n : Int)) : (started now disk last).check = 0 := by
  unfold started
  rw [he, Int.toNat_natCast]
  have hr := dead_refs hx.ok hl
  refine putIno_check hx.ok _ (.inr ⟨rfl, by show 1 ≤ last + 1; omega, by rw [hr]; exact Int.le_refl _, fun p hp => ?_⟩) (fun d s hd hs h => ?_) (fun _ k hk hne hlk => ?_) (fun _ k q p _ _ hp _ _ hD => ?_) (fun _ hD => ?_)
  · match p, hp with
    | 0, _ => rfl
    | 1, _ => rfl
  · have := (slot_lead hx.ok hd hs h).2.1
    rw [hl] at this; cases this
  · have := hla k hk hlk
    show now.stamp k ≠ last + 1
    omega
  · exfalso
    match p, hp with
    | 0, _ => simp [Ino.part, isD] at hD
    | 1, _ => simp [Ino.part, isD] at hD
  · simp [isD] at hD
/-! what a code of 0 says -/
theorem chk_names {x : Stp} (h : chk x = 0) : 1 ≤ x.kind ∧ x.kind ≤ 6 ∧ (0 ≤ x.dir ∧ x.dir < 3) ∧ isNmB x.name.toList = true ∧ ((x.kind = 2 ∨ x.kind = 4) → (0 ≤ x.toDir ∧ x.toDir < 3) ∧ isNmB x.to.toList = true) ∧ ((x.kind = 5 ∨ x.kind = 6) → 0 ≤ x.p ∧ x.p < 2) := by
  obtain ⟨a1, a2, a3, a4, a5, a6⟩ := Idl.chk_zero h
  obtain ⟨b1, b2⟩ := Idl.spot_zero a3
  refine ⟨a1, a2, Idl.isD_iff.1 b1, b2, fun h2 => ?_, fun h5 => ?_⟩
  · obtain ⟨c1, c2⟩ := Idl.spot_zero (a4 h2)
    exact ⟨Idl.isD_iff.1 c1, c2⟩
  · exact a5 h5
theorem nm_ne {s : ByteArray} (h : isNmB s.toList = true) : s.toList.isEmpty = false := by
  cases hl : s.toList
  · rw [hl] at h; simp [isNmB] at h
  · rfl
structure Take (now disk : Img) (x : Stp) : Prop where
  chk : Idl.chk x = 0
  k1 : 1 ≤ x.kind
  k6 : x.kind ≤ 6
  dir : 0 ≤ x.dir ∧ x.dir < 3
  name : isNmB x.name.toList = true
  to : (x.kind = 2 ∨ x.kind = 4) → (0 ≤ x.toDir ∧ x.toDir < 3) ∧ isNmB x.to.toList = true
  part : (x.kind = 5 ∨ x.kind = 6) → 0 ≤ x.p ∧ x.p < 2
  new : x.kind = 1 → inoOf now x.dir x.name < 0
  old : x.kind ≠ 1 → 0 ≤ inoOf now x.dir x.name
  new2 : (x.kind = 2 ∨ x.kind = 4) → inoOf now x.toDir x.to < 0
  ino : x.kind = 1 → ¬ freeIno now disk < 0
  slot : x.kind = 1 → ¬ freeSlot now disk x.dir < 0 ∧ disk.findAt x.dir x.name.toList < 0
  slot2 : (x.kind = 2 ∨ x.kind = 4) → ¬ freeSlot now disk x.toDir < 0 ∧ disk.findAt x.toDir x.to.toList < 0
  data : x.kind = 5 → now.part (inoOf now x.dir x.name).toNat x.p.toNat < 0 → ¬ freeData now disk < 0
theorem take {x : Stp} (h : scode now disk x = 0) : Take now disk x := by
  have h0 : scheck now x = 0 := by
    unfold scode at h
    by_cases e : scheck now x = 0
    · exact e
    · rw [if_pos e] at h; exact absurd h e
  have h1 : sfull now disk x = false := by
    unfold scode at h
    rw [if_neg (by rw [h0]; simp)] at h
    cases e : sfull now disk x
    · rfl
    · rw [e] at h; simp at h
  have hc : chk x = 0 := by
    unfold scheck at h0
    by_cases e : chk x = 0
    · exact e
    · rw [if_pos e] at h0; exact absurd h0 e
  obtain ⟨a1, a2, a3, a4, a5, a6⟩ := chk_names hc
  have hs : (x.kind = 1 → inoOf now x.dir x.name < 0) ∧ (x.kind ≠ 1 → 0 ≤ inoOf now x.dir x.name) ∧ ((x.kind = 2 ∨ x.kind = 4) → inoOf now x.toDir x.to < 0) := by
    unfold scheck at h0
    rw [if_neg (by rw [hc]; simp)] at h0
    by_cases k1 : x.kind = 1
    · rw [if_pos k1] at h0
      refine ⟨fun _ => ?_, fun h => absurd k1 h, fun h => by omega⟩
      by_cases z : 0 ≤ inoOf now x.dir x.name
      · rw [if_pos z] at h0; simp at h0
      · omega
    · rw [if_neg k1] at h0
      by_cases z : inoOf now x.dir x.name < 0
      · rw [if_pos z] at h0; simp at h0
      · rw [if_neg z] at h0
        refine ⟨fun h => absurd h k1, fun _ => by omega, fun h2 => ?_⟩
        by_cases y : 0 ≤ inoOf now x.toDir x.to
        · rw [if_pos ⟨h2, y⟩] at h0; simp at h0
        · omega
  have hp : ∀ d s, noPlace now disk d s = false → ¬ freeSlot now disk d < 0 ∧ disk.findAt d s.toList < 0 := fun d s z => by
    unfold noPlace at z
    rw [Bool.or_eq_false_iff] at z
    have z1 := z.1
    have z2 := z.2
    simp only [decide_eq_false_iff_not] at z1 z2
    exact ⟨z1, by omega⟩
  refine ⟨hc, a1, a2, a3, a4, a5, a6, hs.1, hs.2.1, hs.2.2, fun k => ?_, fun k => ?_, fun k => ?_, fun k hneg => ?_⟩
  · unfold sfull at h1
    rw [if_pos k, Bool.or_eq_false_iff] at h1
    simpa using h1.1
  · unfold sfull at h1
    rw [if_pos k, Bool.or_eq_false_iff] at h1
    exact hp _ _ h1.2
  · unfold sfull at h1
    rw [if_neg (by omega), if_pos k] at h1
    exact hp _ _ h1
  · unfold sfull at h1
    rw [if_neg (by omega), if_neg (by omega), if_pos k, Bool.and_eq_false_iff] at h1
    rcases h1 with z | z
    · simp only [decide_eq_false_iff_not] at z; exact absurd hneg z
    · simpa using z
/-- how the step that is taken leaves what is to be -/
theorem sstep_cases {x : Stp} (h : scode now disk x = 0) :
    (x.kind = 1 ∧ sstep now disk last x = added (started now disk last) disk x.dir x.name (freeIno now disk).toNat) ∨ (x.kind = 2 ∧ sstep now disk last x = added now disk x.toDir x.to (inoOf now x.dir x.name).toNat) ∨
    (x.kind = 3 ∧ sstep now disk last x = dropped now x.dir x.name) ∨ (x.kind = 4 ∧ sstep now disk last x = dropped (added now disk x.toDir x.to (inoOf now x.dir x.name).toNat) x.dir x.name) ∨
    (x.kind = 5 ∧ sstep now disk last x = putPart now disk (inoOf now x.dir x.name).toNat x.p.toNat x.text) ∨ (x.kind = 6 ∧ sstep now disk last x = now.setPart (inoOf now x.dir x.name).toNat x.p.toNat (-1)) := by
  have t := take h
  have k1 := t.k1
  have k6 := t.k6
  unfold sstep
  rw [if_neg (by rw [h]; simp)]
  have : x.kind = 1 ∨ x.kind = 2 ∨ x.kind = 3 ∨ x.kind = 4 ∨ x.kind = 5 ∨ x.kind = 6 := by omega
  rcases this with k | k | k | k | k | k <;> simp [k]
end Img
end Go.Proofs.YtfpfpnhpbnnmfadGreatDoor
