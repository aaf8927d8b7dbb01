/-
  Plain laws of images: an inode, a data, an entry that is put; what is Exact stays so. No Go in here.
-/
import Derived.Test.YtmbpckmpnnmnmacGreatSi
namespace Go.Proofs.YtmbpckmpnnmnmacGreat
namespace Img
variable {m : Img}
/-- Exact, taken apart -/
structure Ex (m : Img) : Prop where
  ok : m.check = 0
  links : ∀ n, n < 8 → m.live n = true → m.links n = (m.refs n : Int) ∧ 1 ≤ m.links n
theorem ex_iff : m.exact = true ↔ Ex m := by
  constructor
  · intro h
    exact ⟨exact_check h, fun n hn hl => ⟨(exact_links h hn hl).2, (exact_links h hn hl).1⟩⟩
  · intro h
    unfold exact
    rw [Bool.and_eq_true]
    refine ⟨by simp [h.ok], ?_⟩
    rw [Bool.not_eq_true', anyB_false]
    intro n hn
    cases hl : m.live n
    · rfl
    · obtain ⟨h1, h2⟩ := h.links n hn hl
      rw [Bool.true_and, Bool.or_eq_false_iff]
      exact ⟨by simp; omega, by simp [h1]⟩
/-- what leads to an inode that is not live: nothing -/
theorem refs_zero_iff {m : Img} {ino : Int} : m.refs ino = 0 ↔ ∀ d s, d < 3 → s < 4 → m.leads ino d s = false := by
  constructor
  · intro h d s hd hs
    cases e : m.leads ino d s
    · rfl
    · have := refs_pos_of_leads hd hs e; omega
  · intro h
    have hc : ∀ d, d < 3 → cnt (m.leads ino d) 4 = 0 := fun d hd => by
      have h0 := h d 0 hd (by omega)
      have h1 := h d 1 hd (by omega)
      have h2 := h d 2 hd (by omega)
      have h3 := h d 3 hd (by omega)
      simp [cnt, h0, h1, h2, h3]
    show m.refsTo ino 3 = 0
    simp [refsTo, hc 0 (by omega), hc 1 (by omega), hc 2 (by omega)]
theorem slot_lead {m : Img} (h : m.check = 0) {d s n : Nat} (hd : d < 3) (hs : s < 4) (hl : m.leads (n : Int) d s = true) : n < 8 ∧ m.live n = true ∧ m.stamp n = m.est d s := by
  have hn : m.named d s = true := by unfold leads at hl; simp at hl; exact hl.1
  have hi : m.ino d s = (n : Int) := by unfold leads at hl; simp at hl; exact hl.2
  have k := (slot_ok hn).1 ((well_iff.1 h).slot d s hd hs)
  have h1 := k.hi
  have h2 := k.live
  have h3 := k.stamp
  rw [hi, Int.toNat_natCast] at h2 h3
  exact ⟨by omega, h2, h3⟩
theorem dead_refs {m : Img} (h : m.check = 0) {n : Nat} (hl : m.live n = false) : m.refs (n : Int) = 0 := by
  rw [refs_zero_iff]
  intro d s hd hs
  cases e : m.leads (n : Int) d s
  · rfl
  · have := (slot_lead h hd hs e).2.1
    rw [hl] at this; cases this
/-! another inode is put -/
theorem putIno_dirs (m : Img) (n : Nat) (i : Ino) : (m.putIno n i).name = m.name ∧ (m.putIno n i).ino = m.ino ∧ (m.putIno n i).est = m.est ∧ (m.putIno n i).of = m.of ∧ (m.putIno n i).text = m.text := ⟨rfl, rfl, rfl, rfl, rfl⟩
theorem putIno_refs (m : Img) (n : Nat) (i : Ino) (ino : Int) : (m.putIno n i).refs ino = m.refs ino := refs_of_dirs rfl rfl ino
theorem putIno_live (m : Img) (n : Nat) (i : Ino) (k : Nat) : (m.putIno n i).live k = if k = n then i.live else m.live k := rfl
theorem putIno_stamp (m : Img) (n : Nat) (i : Ino) (k : Nat) : (m.putIno n i).stamp k = if k = n then i.stamp else m.stamp k := rfl
theorem putIno_links (m : Img) (n : Nat) (i : Ino) (k : Nat) : (m.putIno n i).links k = if k = n then i.links else m.links k := rfl
theorem putIno_part (m : Img) (n : Nat) (i : Ino) (k p : Nat) : (m.putIno n i).part k p = if k = n then (if p = 0 then i.p0 else i.p1) else m.part k p := rfl
def Ino.part (i : Ino) (p : Nat) : Int := if p = 0 then i.p0 else i.p1
theorem putIno_check (hm : m.check = 0) {n : Nat} (i : Ino) (h1 : i = Ino.none ∨ (i.live = true ∧ 1 ≤ i.stamp ∧ (m.refs n : Int) ≤ i.links ∧ ∀ p, p < 2 → m.checkPart (Ino.part i p) i.stamp = 0))
    (h2 : ∀ d s, d < 3 → s < 4 → m.leads (n : Int) d s = true → i.live = true ∧ i.stamp = m.stamp n)
    (h3 : i.live = true → ∀ k, k < 8 → k ≠ n → m.live k = true → m.stamp k ≠ i.stamp)
    (h4 : i.live = true → ∀ k q p, k < 8 → q < 2 → p < 2 → k ≠ n → m.live k = true → isD (Ino.part i p) = true → m.part k q ≠ Ino.part i p)
    (h5 : i.live = true → isD i.p0 = true → i.p0 ≠ i.p1) : (m.putIno n i).check = 0 := by
  have wm := well_iff.1 hm
  refine well_iff.2 ⟨fun d s hd hs => ?_, fun k hk => ?_, ?_, ?_⟩
  · have h0 := wm.slot d s hd hs
    cases hn : m.named d s
    · unfold checkSlot at h0 ⊢
      rw [if_pos hn] at h0
      rw [if_pos (show (m.putIno n i).named d s = false from hn)]; exact h0
    · have k := (slot_ok hn).1 h0
      obtain ⟨j, hj⟩ := Int.eq_ofNat_of_zero_le k.lo
      refine (slot_ok (m := m.putIno n i) hn).2 ⟨k.nm, k.first, k.lo, k.hi, ?_, ?_⟩
      · have := k.live
        show (m.putIno n i).live (m.ino d s).toNat = true
        rw [hj, Int.toNat_natCast] at this ⊢
        rw [putIno_live]
        by_cases e : j = n
        · subst e; rw [if_pos rfl]; exact (h2 d s hd hs (slot_leads hn hj)).1
        · rw [if_neg e]; exact this
      · have := k.stamp
        show (m.putIno n i).stamp (m.ino d s).toNat = m.est d s
        rw [hj, Int.toNat_natCast] at this ⊢
        rw [putIno_stamp]
        by_cases e : j = n
        · subst e; rw [if_pos rfl, (h2 d s hd hs (slot_leads hn hj)).2]; exact this
        · rw [if_neg e]; exact this
  · by_cases e : k = n
    · subst e
      rcases h1 with z | ⟨z1, z2, z3, z4⟩
      · exact checkInode_none (by rw [putIno_at, z])
      · refine checkInode_live (by rw [putIno_live, if_pos rfl]; exact z1) (by rw [putIno_stamp, if_pos rfl]; exact z2) (by rw [putIno_refs, putIno_links, if_pos rfl]; exact z3) (fun p hp => ?_)
        have := z4 p hp
        rw [putIno_part, if_pos rfl, putIno_stamp, if_pos rfl]
        exact this
    · have h0 := wm.inode k hk
      have ei := putIno_other m (n := n) i e
      cases hl : m.live k
      · exact checkInode_none (by rw [ei]; exact inode_free_ok hm hk hl)
      · have ok := inode_parts_ok hm hk hl
        obtain ⟨g1, g2, g3, g4⟩ := inode_eq ei
        refine checkInode_live (by rw [g1]; exact hl) (by rw [g2]; exact ok.1) (by rw [putIno_refs, g3]; exact ok.2.1) (fun p hp => ?_)
        rw [g4 p hp, g2]; exact ok.2.2 p hp
  · rw [stamps_iff]
    intro a b ha hb l1 l2
    rw [putIno_live] at l1 l2
    rw [putIno_stamp, putIno_stamp]
    by_cases ea : a = n
    · subst ea
      rw [if_pos rfl] at l1 ⊢
      rw [if_neg (by omega)] at l2 ⊢
      exact fun z => h3 l1 b (by omega) (by omega) l2 z.symm
    · rw [if_neg ea] at l1 ⊢
      by_cases eb : b = n
      · subst eb
        rw [if_pos rfl] at l2 ⊢
        exact h3 l2 a ha ea l1
      · rw [if_neg eb] at l2 ⊢
        exact stamps_ne wm.stamps ha (by omega) (by omega) l1 l2
  · rw [datas_iff]
    intro t u ht hu l1 e
    have lt : (m.putIno n i).live (t / 2) = true := by
      cases hl : (m.putIno n i).live (t / 2)
      · rw [pa_of_dead hl] at l1; simp [isD] at l1
      · rfl
    have lu : (m.putIno n i).live (u / 2) = true := by
      cases hl : (m.putIno n i).live (u / 2)
      · rw [← e, pa_of_dead hl] at l1; simp [isD] at l1
      · rfl
    rw [pa_of_live lt] at l1 e
    rw [pa_of_live lu] at e
    rw [putIno_part] at l1 e
    rw [putIno_part] at e
    rw [putIno_live] at lt lu
    by_cases ea : t / 2 = n
    · rw [if_pos ea] at l1 e lt
      by_cases eb : u / 2 = n
      · rw [if_pos eb] at e
        have et : t % 2 = 1 := by omega
        have eu : u % 2 = 0 := by omega
        rw [et, eu, if_pos rfl, if_neg (by omega)] at e
        rw [et, if_neg (by omega)] at l1
        exact h5 lt (by rw [e]; exact l1) e
      · rw [if_neg eb] at e lu
        exact h4 lt (u / 2) (u % 2) (t % 2) (by omega) (by omega) (by omega) eb lu l1 e
    · rw [if_neg ea] at l1 e lt
      by_cases eb : u / 2 = n
      · rw [if_pos eb] at e lu
        exact h4 lu (t / 2) (t % 2) (u % 2) (by omega) (by omega) (by omega) ea lt (by rw [show Ino.part i (u % 2) = _ from e]; exact l1) e.symm
      · rw [if_neg eb] at e lu
        have := datas_ne wm.datas (t := t) (u := u) ht (by omega) (by omega) (by rw [pa_of_live lt]; exact l1)
        rw [pa_of_live lt, pa_of_live lu] at this
        exact this e
/-! another data is put -/
theorem putData_check (hm : m.check = 0) {x : Nat} (o : Int) (t : ByteArray) (h : ∀ n p, n < 8 → p < 2 → m.live n = true → m.part n p = (x : Int) → m.stamp n = o) : (m.putData x o t).check = 0 := by
  have wm := well_iff.1 hm
  refine well_iff.2 ⟨fun d s hd hs => wm.slot d s hd hs, fun k hk => ?_, wm.stamps, wm.datas⟩
  cases hl : m.live k
  · exact checkInode_none (m := m.putData x o t) (inode_free_ok hm hk hl : m.inode k = _)
  · have ok := inode_parts_ok hm hk hl
    refine checkInode_live (m := m.putData x o t) hl ok.1 ok.2.1 (fun p hp => ?_)
    have := ok.2.2 p hp
    rw [checkPart_iff] at this
    show (m.putData x o t).checkPart (m.part k p) (m.stamp k) = 0
    rw [checkPart_iff]
    rcases this with z | ⟨z1, z2⟩
    · exact .inl z
    · refine .inr ⟨z1, ?_⟩
      show (if (m.part k p).toNat = x then o else m.of (m.part k p).toNat) = m.stamp k
      have hb : 0 ≤ m.part k p ∧ m.part k p < 9 := by simpa [isD] using z1
      by_cases e : (m.part k p).toNat = x
      · rw [if_pos e]; exact (h k p hk hp hl (by omega)).symm
      · rw [if_neg e]; exact z2
/-! an entry comes -/
theorem come_check (hm : m.check = 0) {d s : Nat} (e : Ent) (hd : d < 3) (hs : s < 4) (h1 : m.named d s = false) (hnm : isNmB e.name.toList = true) (h2 : mayCome m e.ino e.est = true)
    (hap : ∀ t, t < 4 → t ≠ s → (m.name d t).toList ≠ e.name.toList) : (m.putEnt d s e).check = 0 := by
  have wm := well_iff.1 hm
  obtain ⟨c1, c2, c3, c4, c5⟩ := mayCome_iff h2
  obtain ⟨i, hi⟩ := Int.eq_ofNat_of_zero_le c1
  rw [hi, Int.toNat_natCast] at c3 c4 c5
  have hne : e.name.toList.isEmpty = false := by
    cases hl : e.name.toList
    · rw [hl] at hnm; simp [isNmB] at hnm
    · rfl
  have hrest : ∀ k : Nat, ((m.putEnt d s e).refs k : Int) ≤ m.refs k + (if k = i then 1 else 0) := fun k => by
    have hr := putEnt_refs m (d := d) (s := s) e (k : Int) hd hs
    rw [show m.leads (k : Int) d s = false by unfold leads; rw [h1]; rfl] at hr
    cases hl : Ent.leads e (k : Int)
    · rw [hl] at hr; simp [b2n] at hr; split <;> omega
    · rw [hl] at hr
      have : e.ino = (k : Int) := by unfold Ent.leads at hl; simp at hl; exact hl.2
      rw [if_pos (by omega)]
      simp [b2n] at hr; omega
  have hname : ∀ d' s', ¬ (d' = d ∧ s' = s) → (m.putEnt d s e).name d' s' = m.name d' s' := fun d' s' h => if_neg h
  have hname0 : (m.putEnt d s e).name d s = e.name := if_pos ⟨rfl, rfl⟩
  have hino0 : (m.putEnt d s e).ino d s = e.ino := if_pos ⟨rfl, rfl⟩
  have hest0 : (m.putEnt d s e).est d s = e.est := if_pos ⟨rfl, rfl⟩
  refine well_iff.2 ⟨fun d' s' hd' hs' => ?_, fun k hk => ?_, wm.stamps, wm.datas⟩
  · by_cases ee : d' = d ∧ s' = s
    · obtain ⟨rfl, rfl⟩ := ee
      refine (slot_ok (by unfold named; rw [hname0, hne]; rfl)).2 ⟨by rw [hname0]; exact hnm, ?_, by rw [hino0]; exact c1, by rw [hino0]; exact c2, ?_, ?_⟩
      · have := find_from (m := m.putEnt d' s' e) (d := d') hs (fun j hj => by rw [hname d' j (by omega), hname0]; exact hap j (by omega) (by omega))
        rw [this]; exact Int.le_refl _
      · rw [hino0, hi, Int.toNat_natCast]; exact c3
      · rw [hino0, hest0, hi, Int.toNat_natCast]; exact c4
    · have h0 := wm.slot d' s' hd' hs'
      have en : (m.putEnt d s e).named d' s' = m.named d' s' := by unfold named; rw [hname d' s' ee]
      have ei : (m.putEnt d s e).ino d' s' = m.ino d' s' := if_neg ee
      have ex : (m.putEnt d s e).est d' s' = m.est d' s' := if_neg ee
      cases hnm' : m.named d' s'
      · unfold checkSlot at h0 ⊢
        rw [if_pos hnm'] at h0
        rw [if_pos (by rw [en]; exact hnm'), ei, ex]; exact h0
      · have k := (slot_ok hnm').1 h0
        refine (slot_ok (by rw [en]; exact hnm')).2 ⟨by rw [hname d' s' ee]; exact k.nm, ?_, by rw [ei]; exact k.lo, by rw [ei]; exact k.hi, by rw [ei]; exact k.live, by rw [ei, ex]; exact k.stamp⟩
        have := find_from (m := m.putEnt d s e) (d := d') hs' (fun j hj => by
          rw [hname d' s' ee]
          by_cases ej : d' = d ∧ j = s
          · obtain ⟨rfl, rfl⟩ := ej
            rw [hname0]
            exact fun y => hap s' hs' (fun z => ee ⟨rfl, z⟩) y.symm
          · rw [hname d' j ej]
            exact names_apart hm hd' hs' (by omega) (by omega) hnm')
        rw [this]; exact Int.le_refl _
  · cases hl : m.live k
    · exact checkInode_none (m := m.putEnt d s e) (inode_free_ok hm hk hl : m.inode k = _)
    · have ok := inode_parts_ok hm hk hl
      refine checkInode_live (m := m.putEnt d s e) hl ok.1 ?_ ok.2.2
      have := hrest k
      show ((m.putEnt d s e).refs k : Int) ≤ m.links k
      by_cases ee : k = i
      · subst ee; rw [if_pos rfl] at this; omega
      · rw [if_neg ee] at this; have := ok.2.1; omega
end Img
end Go.Proofs.YtmbpckmpnnmnmacGreat
