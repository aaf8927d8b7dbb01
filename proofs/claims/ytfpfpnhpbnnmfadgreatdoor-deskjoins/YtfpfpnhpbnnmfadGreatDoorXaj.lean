/-
  What is to be is Exact, behind each step; what a new file is. No Go in here.
-/
import Derived.Test.YtfpfpnhpbnnmfadGreatDoorXai
namespace Go.Proofs.YtfpfpnhpbnnmfadGreatDoor
namespace Img
open Idl (Stp chk)
variable {now disk : Img} {last : Int}
theorem added_live (d : Int) (s : ByteArray) (n j : Nat) : (added now disk d s n).live j = now.live j := by
  show (if j = n then now.live n else now.live j) = _
  by_cases e : j = n
  · rw [if_pos e, e]
  · rw [if_neg e]
theorem added_stamp (d : Int) (s : ByteArray) (n j : Nat) : (added now disk d s n).stamp j = now.stamp j := by
  show (if j = n then now.stamp n else now.stamp j) = _
  by_cases e : j = n
  · rw [if_pos e, e]
  · rw [if_neg e]
theorem added_name (d : Int) (s : ByteArray) (n : Nat) {k : Nat} (hS : SlotAt now disk d k) {e t : Nat} (h : now.named e t = true) : (added now disk d s n).entry e t = now.entry e t := by
  have : ¬ (e = d.toNat ∧ t = (freeSlot now disk d).toNat) := fun z => by
    rw [hS.eq, Int.toNat_natCast] at z
    have := hS.now
    rw [← z.1, ← z.2, h] at this; cases this
  exact putEnt_other now _ this
theorem added_at (d : Int) (s : ByteArray) (n : Nat) {k : Nat} (hS : SlotAt now disk d k) : (added now disk d s n).entry d.toNat k = ⟨s, (n : Int), now.stamp n⟩ := by
  have := putEnt_at now d.toNat k ⟨s, (n : Int), now.stamp n⟩
  unfold added
  rw [hS.eq, Int.toNat_natCast]
  exact this
theorem find_at {m : Img} (hm : m.check = 0) {d : Int} {s : ByteArray} {k : Nat} (hd : 0 ≤ d ∧ d < 3) (hk : k < 4) (hs : s.toList.isEmpty = false) (hn : m.name d.toNat k = s) : m.findAt d s.toList = (k : Int) := by
  unfold findAt
  rw [if_pos ⟨hd.1, hd.2, hs⟩]
  have := find_self (d := d.toNat) (s := k) hm (by omega) hk (by unfold named; rw [hn, hs]; rfl)
  rw [hn] at this
  exact this
/-- a name that was there is there still, where it was -/
theorem There.added {d : Int} {s : ByteArray} {k n : Nat} (hT : There now d s k n) {e : Int} {t : ByteArray} {n' k' : Nat} (hS : SlotAt now disk e k') (hm : (added now disk e t n').check = 0) : There (added now disk e t n') d s k n := by
  have h1 := added_name (disk := disk) e t n' hS hT.named
  obtain ⟨a1, a2, a3⟩ := named_entry h1
  have hat := find_at hm ⟨hT.d0, hT.d3⟩ hT.k4 hT.ne (a1.trans hT.nm)
  refine ⟨hT.d0, hT.d3, hT.ne, hT.k4, hat, a1.trans hT.nm, ?_, a2.trans hT.ino, hT.n8, by rw [added_live]; exact hT.live, by rw [added_stamp, a3]; exact hT.stamp, ?_⟩
  · unfold Img.named; rw [a1]; exact hT.named
  · unfold inoOf
    rw [if_neg (by rw [hat]; omega), hat, Int.toNat_natCast, a2, hT.ino]
theorem dropped_live {d : Int} {s : ByteArray} {j : Nat} (h : (dropped now d s).live j = true) : now.live j = true ∧ (dropped now d s).stamp j = now.stamp j := by
  have h1 : (dropped1 now d s).live j = now.live j ∧ (dropped1 now d s).stamp j = now.stamp j := by
    unfold dropped1
    rw [putIno_live, putIno_stamp]
    by_cases e : j = (inoOf now d s).toNat
    · rw [if_pos e, if_pos e, e]; exact ⟨rfl, rfl⟩
    · rw [if_neg e, if_neg e]; exact ⟨rfl, rfl⟩
  unfold dropped at h ⊢
  split at h
  · rename_i z
    rw [if_pos z]
    rw [putIno_live] at h
    by_cases e : j = (inoOf now d s).toNat
    · rw [if_pos e] at h; cases h
    · rw [if_neg e, h1.1] at h
      rw [putIno_stamp, if_neg e]; exact ⟨h, h1.2⟩
  · rename_i z
    rw [if_neg z]
    rw [h1.1] at h
    exact ⟨h, h1.2⟩
theorem setPart_same (n p : Nat) (v : Int) (j : Nat) : (now.setPart n p v).live j = now.live j ∧ (now.setPart n p v).stamp j = now.stamp j := by
  unfold setPart
  rw [putIno_live, putIno_stamp]
  by_cases e : j = n
  · rw [if_pos e, if_pos e, e]; exact ⟨rfl, rfl⟩
  · rw [if_neg e, if_neg e]; exact ⟨rfl, rfl⟩
theorem putPart_same (n p : Nat) (t : ByteArray) (j : Nat) : (putPart now disk n p t).live j = now.live j ∧ (putPart now disk n p t).stamp j = now.stamp j := by
  unfold putPart
  by_cases e : now.part n p < 0
  · simp only [if_pos e]; exact setPart_same n p _ j
  · simp only [if_neg e]; exact ⟨rfl, rfl⟩
/-- the file that comes: all of it -/
structure Comes (now disk : Img) (last : Int) (x : Stp) (n k : Nat) : Prop where
  n8 : n < 8
  ino : freeIno now disk = (n : Int)
  dead : now.live n = false
  refs : disk.refs (n : Int) = 0
  slot : SlotAt now disk x.dir k
  slot' : SlotAt (started now disk last) disk x.dir k
  chk : (started now disk last).check = 0
  ex : Ex (added (started now disk last) disk x.dir x.name n)
theorem comes (hG : Good now last) {x : Stp} (h : scode now disk x = 0) (h1 : x.kind = 1) : ∃ n k, Comes now disk last x n k := by
  have t := take h
  obtain ⟨n, hn, he, hl, hr⟩ := inoAt (t.ino h1)
  obtain ⟨k, hS⟩ := slotAt (t.slot h1).1
  have hc := started_check (disk := disk) hG.ex hG.lo hG.last hl he
  have hS' : SlotAt (started now disk last) disk x.dir k := ⟨hS.d0, hS.d3, hS.s4, hS.eq, hS.now, hS.disk⟩
  have hrn := dead_refs hG.ex.ok hl
  have er : ∀ j : Int, (started now disk last).refs j = now.refs j := fun j => putIno_refs _ _ _ _
  have el : ∀ j, (started now disk last).live j = if j = n then true else now.live j := fun j => by unfold started; rw [he, Int.toNat_natCast]; rfl
  have ek : ∀ j, (started now disk last).links j = if j = n then 0 else now.links j := fun j => by unfold started; rw [he, Int.toNat_natCast]; rfl
  refine ⟨n, k, hn, he, hl, hr, hS, hS', hc, ?_⟩
  refine added_ex hc hS' hn (by rw [el, if_pos rfl]) t.name (fun u hu => ?_) (fun j hj hlj => ?_) (fun j hj hne hlj => ?_)
  · have := findAt_none (m := now) (d := x.dir) (s := x.name) ((inoOf_neg hG.ex.ok).1 (t.new h1)) t.dir (nm_ne t.name) u hu
    exact this
  · rw [ek, er]
    by_cases e : j = n
    · rw [if_pos e, e, hrn]; rfl
    · rw [if_neg e]
      rw [el, if_neg e] at hlj
      exact (hG.ex.links j hj hlj).1
  · rw [ek, if_neg hne]
    rw [el, if_neg hne] at hlj
    exact (hG.ex.links j hj hlj).2
theorem linked (hG : Good now last) {x : Stp} (h : scode now disk x = 0) (h2 : x.kind = 2 ∨ x.kind = 4) : ∃ k n k', There now x.dir x.name k n ∧ SlotAt now disk x.toDir k' ∧ Ex (added now disk x.toDir x.to n) := by
  have t := take h
  obtain ⟨k, n, hT⟩ := there hG.ex.ok (t.old (by omega))
  obtain ⟨k', hS⟩ := slotAt (t.slot2 h2).1
  refine ⟨k, n, k', hT, hS, added_ex hG.ex.ok hS hT.n8 hT.live (t.to h2).2 (fun u hu => ?_) (fun j hj hlj => (hG.ex.links j hj hlj).1) (fun j hj _ hlj => (hG.ex.links j hj hlj).2)⟩
  exact findAt_none (m := now) (d := x.toDir) (s := x.to) ((inoOf_neg hG.ex.ok).1 (t.new2 h2)) (t.to h2).1 (nm_ne (t.to h2).2) u hu
theorem good_step (hG : Good now last) (x : Stp) : Good (sstep now disk last x) (slast now disk last x) := by
  by_cases h : scode now disk x = 0
  · have t := take h
    rcases sstep_cases (last := last) h with ⟨k, e⟩ | ⟨k, e⟩ | ⟨k, e⟩ | ⟨k, e⟩ | ⟨k, e⟩ | ⟨k, e⟩
    · obtain ⟨n, s, hc⟩ := comes hG h k
      have el : slast now disk last x = last + 1 := if_pos ⟨h, k⟩
      rw [e, el, hc.ino, Int.toNat_natCast]
      refine ⟨hc.ex, by have := hG.lo; omega, fun j hj hlj => ?_⟩
      rw [added_live] at hlj
      rw [added_stamp]
      unfold started at hlj ⊢
      rw [hc.ino, Int.toNat_natCast] at hlj ⊢
      rw [putIno_live] at hlj
      rw [putIno_stamp]
      by_cases ej : j = n
      · rw [if_pos ej]; exact Int.le_refl _
      · rw [if_neg ej] at hlj ⊢
        have := hG.last j hj hlj; omega
    all_goals have el : slast now disk last x = last := if_neg (fun z => by have := z.2; omega)
    all_goals rw [e, el]
    · obtain ⟨k', n, s, hT, hS, hx⟩ := linked hG h (.inl k)
      rw [hT.of, Int.toNat_natCast]
      exact ⟨hx, hG.lo, fun j hj hlj => by rw [added_live] at hlj; rw [added_stamp]; exact hG.last j hj hlj⟩
    · obtain ⟨k', n, hT⟩ := there hG.ex.ok (t.old (by omega))
      exact ⟨dropped_ex hG.ex hT, hG.lo, fun j hj hlj => by rw [(dropped_live hlj).2]; exact hG.last j hj (dropped_live hlj).1⟩
    · obtain ⟨k', n, s, hT, hS, hx⟩ := linked hG h (.inr k)
      rw [hT.of, Int.toNat_natCast]
      refine ⟨dropped_ex hx (hT.added hS hx.ok), hG.lo, fun j hj hlj => ?_⟩
      obtain ⟨a1, a2⟩ := dropped_live hlj
      rw [a2, added_stamp]
      rw [added_live] at a1
      exact hG.last j hj a1
    · obtain ⟨k', n, hT⟩ := there hG.ex.ok (t.old (by omega))
      have hp := t.part (.inl k)
      have hf := t.data k
      rw [hT.of, Int.toNat_natCast] at hf ⊢
      exact ⟨putPart_ex hG.ex hT.n8 (by omega) hT.live x.text hf, hG.lo, fun j hj hlj => by rw [(putPart_same _ _ _ j).1] at hlj; rw [(putPart_same _ _ _ j).2]; exact hG.last j hj hlj⟩
    · obtain ⟨k', n, hT⟩ := there hG.ex.ok (t.old (by omega))
      have hp := t.part (.inr k)
      rw [hT.of, Int.toNat_natCast]
      exact ⟨setPart_ex hG.ex hT.n8 (by omega) hT.live (-1) (.inl rfl), hG.lo, fun j hj hlj => by rw [(setPart_same _ _ _ j).1] at hlj; rw [(setPart_same _ _ _ j).2]; exact hG.last j hj hlj⟩
  · have e1 : sstep now disk last x = now := if_pos h
    have e2 : slast now disk last x = last := if_neg (fun z => h z.1)
    rw [e1, e2]; exact hG
end Img
end Go.Proofs.YtfpfpnhpbnnmfadGreatDoor
