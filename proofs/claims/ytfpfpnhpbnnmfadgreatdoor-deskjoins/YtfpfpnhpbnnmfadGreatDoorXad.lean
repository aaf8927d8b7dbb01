/-
  Plain laws of images: an inode, a data, an entry that is put; what is Exact stays so. No Go in here.
-/
import Derived.Test.YtfpfpnhpbnnmfadGreatDoorXac
import Derived.Test.YtfpfpnhpbnnmfadGreatDoorRows
import Derived.Test.YtfpfpnhpbnnmfadGreatDoorXaa
import Derived.WalkKit
import Derived.WalkSpells
import Derived.WalkLawsBesides
namespace Go.Proofs.YtfpfpnhpbnnmfadGreatDoor
namespace Img
variable {m : Img}
/-- Exact, taken apart -/
structure Ex (m : Img) : Prop where
  ok : m.check = 0
  links : ∀ n, n < 8 → m.live n = true → m.links n = (m.refs n : Int) ∧ 1 ≤ m.links n
theorem ex_iff : m.exact = true ↔ Ex m := by
  constructor
  · intro h
    exact ⟨exact_check h, fun n hn hl => ⟨(exact_links h hn hl).2, (exact_links h hn hl).1⟩⟩
  · intro h
    unfold exact
    rw [Bool.and_eq_true]
    refine ⟨by simp [h.ok], ?_⟩
    rw [Bool.not_eq_true', anyB_false]
    intro n hn
    cases hl : m.live n
    · rfl
    · obtain ⟨h1, h2⟩ := h.links n hn hl
      rw [Bool.true_and, Bool.or_eq_false_iff]
      exact ⟨by simp; omega, by simp [h1]⟩
/-- what leads to an inode that is not live: nothing -/
theorem refs_zero_iff {m : Img} {ino : Int} : m.refs ino = 0 ↔ ∀ d s, d < 3 → s < 4 → m.leads ino d s = false := by
  constructor
  · intro h d s hd hs
    cases e : m.leads ino d s
    · rfl
    · have := refs_pos_of_leads hd hs e; omega
  · intro h
    have hc : ∀ d, d < 3 → cnt (m.leads ino d) 4 = 0 := fun d hd => by
      have h0 := h d 0 hd (by omega)
      have h1 := h d 1 hd (by omega)
      have h2 := h d 2 hd (by omega)
      have h3 := h d 3 hd (by omega)
      simp [cnt, h0, h1, h2, h3]
    show m.refsTo ino 3 = 0
    simp [refsTo, hc 0 (by omega), hc 1 (by omega), hc 2 (by omega)]
theorem slot_lead {m : Img} (h : m.check = 0) {d s n : Nat} (hd : d < 3) (hs : s < 4) (hl : m.leads (n : Int) d s = true) : n < 8 ∧ m.live n = true ∧ m.stamp n = m.est d s := by
  have hn : m.named d s = true := by unfold leads at hl; simp at hl; exact hl.1
  have hi : m.ino d s = (n : Int) := by unfold leads at hl; simp at hl; exact hl.2
  have k := (slot_ok hn).1 ((well_iff.1 h).slot d s hd hs)
  have h1 := k.hi
  have h2 := k.live
  have h3 := k.stamp
  rw [hi, Int.toNat_natCast] at h2 h3
  exact ⟨by omega, h2, h3⟩
theorem dead_refs {m : Img} (h : m.check = 0) {n : Nat} (hl : m.live n = false) : m.refs (n : Int) = 0 := by
  rw [refs_zero_iff]
  intro d s hd hs
  cases e : m.leads (n : Int) d s
  · rfl
  · have := (slot_lead h hd hs e).2.1
    rw [hl] at this; cases this
/-! another inode is put -/
theorem putIno_refs (m : Img) (n : Nat) (i : Ino) (ino : Int) : (m.putIno n i).refs ino = m.refs ino := refs_of_dirs rfl rfl ino
theorem putIno_live (m : Img) (n : Nat) (i : Ino) (k : Nat) : (m.putIno n i).live k = if k = n then i.live else m.live k := rfl
theorem putIno_stamp (m : Img) (n : Nat) (i : Ino) (k : Nat) : (m.putIno n i).stamp k = if k = n then i.stamp else m.stamp k := rfl
theorem putIno_links (m : Img) (n : Nat) (i : Ino) (k : Nat) : (m.putIno n i).links k = if k = n then i.links else m.links k := rfl
theorem putIno_part (m : Img) (n : Nat) (i : Ino) (k p : Nat) : (m.putIno n i).part k p = if k = n then (if p = 0 then i.p0 else i.p1) else m.part k p := rfl
def Ino.part (i : Ino) (p : Nat) : Int := if p = 0 then i.p0 else i.p1
theorem putIno_check (hm : m.check = 0) {n : Nat} (i : Ino) (h1 : i = Ino.none ∨ (i.live = true ∧ 1 ≤ i.stamp ∧ (m.refs n : Int) ≤ i.links ∧ ∀ p, p < 2 → m.checkPart (Ino.part i p) i.stamp = 0))
    (h2 : ∀ d s, d < 3 → s < 4 → m.leads (n : Int) d s = true → i.live = true ∧ i.stamp = m.stamp n)
    (h3 : i.live = true → ∀ k, k < 8 → k ≠ n → m.live k = true → m.stamp k ≠ i.stamp)
    (h4 : i.live = true → ∀ k q p, k < 8 → q < 2 → p < 2 → k ≠ n → m.live k = true → isD (Ino.part i p) = true → m.part k q ≠ Ino.part i p)
    (h5 : i.live = true → isD i.p0 = true → i.p0 ≠ i.p1) : (m.putIno n i).check = 0 := by
  have wm := well_iff.1 hm
  refine well_iff.2 ⟨fun d s hd hs => ?_, fun k hk => ?_, ?_, ?_⟩
  · have h0 := wm.slot d s hd hs
    cases hn : m.named d s
    · unfold checkSlot at h0 ⊢
      rw [if_pos hn] at h0
      rw [if_pos (show (m.putIno n i).named d s = false from hn)]; exact h0
    · have k := (slot_ok hn).1 h0
      obtain ⟨j, hj⟩ := Int.eq_ofNat_of_zero_le k.lo
      refine (slot_ok (m := m.putIno n i) hn).2 ⟨k.nm, k.first, k.lo, k.hi, ?_, ?_⟩
      · have := k.live
        show (m.putIno n i).live (m.ino d s).toNat = true
        rw [hj, Int.toNat_natCast] at this ⊢
        rw [putIno_live]
        by_cases e : j = n
        · subst e; rw [if_pos rfl]; exact (h2 d s hd hs (slot_leads hn hj)).1
        · rw [if_neg e]; exact this
      · have := k.stamp
        show (m.putIno n i).stamp (m.ino d s).toNat = m.est d s
        rw [hj, Int.toNat_natCast] at this ⊢
        rw [putIno_stamp]
        by_cases e : j = n
        · subst e; rw [if_pos rfl, (h2 d s hd hs (slot_leads hn hj)).2]; exact this
        · rw [if_neg e]; exact this
  · by_cases e : k = n
    · subst e
      rcases h1 with z | ⟨z1, z2, z3, z4⟩
      · exact checkInode_none (by rw [putIno_at, z])
      · refine checkInode_live (by rw [putIno_live, if_pos rfl]; exact z1) (by rw [putIno_stamp, if_pos rfl]; exact z2) (by rw [putIno_refs, putIno_links, if_pos rfl]; exact z3) (fun p hp => ?_)
        have := z4 p hp
        rw [putIno_part, if_pos rfl, putIno_stamp, if_pos rfl]
        exact this
    · have h0 := wm.inode k hk
      have ei := putIno_other m (n := n) i e
      cases hl : m.live k
      · exact checkInode_none (by rw [ei]; exact inode_free_ok hm hk hl)
      · have ok := inode_parts_ok hm hk hl
        obtain ⟨g1, g2, g3, g4⟩ := inode_eq ei
        refine checkInode_live (by rw [g1]; exact hl) (by rw [g2]; exact ok.1) (by rw [putIno_refs, g3]; exact ok.2.1) (fun p hp => ?_)
        rw [g4 p hp, g2]; exact ok.2.2 p hp
  · rw [stamps_iff]
    intro a b ha hb l1 l2
    rw [putIno_live] at l1 l2
    rw [putIno_stamp, putIno_stamp]
    by_cases ea : a = n
    · subst ea
      rw [if_pos rfl] at l1 ⊢
      rw [if_neg (by omega)] at l2 ⊢
      exact fun z => h3 l1 b (by omega) (by omega) l2 z.symm
    · rw [if_neg ea] at l1 ⊢
      by_cases eb : b = n
      · subst eb
        rw [if_pos rfl] at l2 ⊢
        exact h3 l2 a ha ea l1
      · rw [if_neg eb] at l2 ⊢
        exact stamps_ne wm.stamps ha (by omega) (by omega) l1 l2
  · rw [datas_iff]
    intro t u ht hu l1 e
    have lt : (m.putIno n i).live (t / 2) = true := by
      cases hl : (m.putIno n i).live (t / 2)
      · rw [pa_of_dead hl] at l1; simp [isD] at l1
      · rfl
    have lu : (m.putIno n i).live (u / 2) = true := by
      cases hl : (m.putIno n i).live (u / 2)
      · rw [← e, pa_of_dead hl] at l1; simp [isD] at l1
      · rfl
    rw [pa_of_live lt] at l1 e
    rw [pa_of_live lu] at e
    rw [putIno_part] at l1 e
    rw [putIno_part] at e
    rw [putIno_live] at lt lu
    by_cases ea : t / 2 = n
    · rw [if_pos ea] at l1 e lt
      by_cases eb : u / 2 = n
      · rw [if_pos eb] at e
        have et : t % 2 = 1 := by omega
        have eu : u % 2 = 0 := by omega
        rw [et, eu, if_pos rfl, if_neg (by omega)] at e
        rw [et, if_neg (by omega)] at l1
        exact h5 lt (by rw [e]; exact l1) e
      · rw [if_neg eb] at e lu
        exact h4 lt (u / 2) (u % 2) (t % 2) (by omega) (by omega) (by omega) eb lu l1 e
    · rw [if_neg ea] at l1 e lt
      by_cases eb : u / 2 = n
      · rw [if_pos eb] at e lu
        exact h4 lu (t / 2) (t % 2) (u % 2) (by omega) (by omega) (by omega) ea lt (by rw [show Ino.part i (u % 2) = _ from e]; exact l1) e.symm
      · rw [if_neg eb] at e lu
        have := datas_ne wm.datas (t := t) (u := u) ht (by omega) (by omega) (by rw [pa_of_live lt]; exact l1)
        rw [pa_of_live lt, pa_of_live lu] at this
        exact this e
/-! another data is put -/
theorem putData_check (hm : m.check = 0) {x : Nat} (o : Int) (t : ByteArray) (h : ∀ n p, n < 8 → p < 2 → m.live n = true → m.part n p = (x : Int) → m.stamp n = o) : (m.putData x o t).check = 0 := by
  have wm := well_iff.1 hm
  refine well_iff.2 ⟨fun d s hd hs => wm.slot d s hd hs, fun k hk => ?_, wm.stamps, wm.datas⟩
  cases hl : m.live k
  · exact checkInode_none (m := m.putData x o t) (inode_free_ok hm hk hl : m.inode k = _)
  · have ok := inode_parts_ok hm hk hl
    refine checkInode_live (m := m.putData x o t) hl ok.1 ok.2.1 (fun p hp => ?_)
    have := ok.2.2 p hp
    rw [checkPart_iff] at this
    show (m.putData x o t).checkPart (m.part k p) (m.stamp k) = 0
    rw [checkPart_iff]
    rcases this with z | ⟨z1, z2⟩
    · exact .inl z
    · refine .inr ⟨z1, ?_⟩
      show (if (m.part k p).toNat = x then o else m.of (m.part k p).toNat) = m.stamp k
      have hb : 0 ≤ m.part k p ∧ m.part k p < 9 := by simpa [isD] using z1
      by_cases e : (m.part k p).toNat = x
      · rw [if_pos e]; exact (h k p hk hp hl (by omega)).symm
      · rw [if_neg e]; exact z2
/-! an entry comes -/
theorem come_check (hm : m.check = 0) {d s : Nat} (e : Ent) (hd : d < 3) (hs : s < 4) (h1 : m.named d s = false) (hnm : isNmB e.name.toList = true) (h2 : mayCome m e.ino e.est = true)
    (hap : ∀ t, t < 4 → t ≠ s → (m.name d t).toList ≠ e.name.toList) : (m.putEnt d s e).check = 0 := by
  have wm := well_iff.1 hm
  obtain ⟨c1, c2, c3, c4, c5⟩ := mayCome_iff h2
  obtain ⟨i, hi⟩ := Int.eq_ofNat_of_zero_le c1
  rw [hi, Int.toNat_natCast] at c3 c4 c5
  have hne : e.name.toList.isEmpty = false := by
    cases hl : e.name.toList
    · rw [hl] at hnm; simp [isNmB] at hnm
    · rfl
  have hrest : ∀ k : Nat, ((m.putEnt d s e).refs k : Int) ≤ m.refs k + (if k = i then 1 else 0) := fun k => by
    have hr := putEnt_refs m (d := d) (s := s) e (k : Int) hd hs
    rw [show m.leads (k : Int) d s = false by unfold leads; rw [h1]; rfl] at hr
    cases hl : Ent.leads e (k : Int)
    · rw [hl] at hr; simp [b2n] at hr; split <;> omega
    · rw [hl] at hr
      have : e.ino = (k : Int) := by unfold Ent.leads at hl; simp at hl; exact hl.2
      rw [if_pos (by omega)]
      simp [b2n] at hr; omega
  have hname : ∀ d' s', ¬ (d' = d ∧ s' = s) → (m.putEnt d s e).name d' s' = m.name d' s' := fun d' s' h => if_neg h
  have hname0 : (m.putEnt d s e).name d s = e.name := if_pos ⟨rfl, rfl⟩
  have hino0 : (m.putEnt d s e).ino d s = e.ino := if_pos ⟨rfl, rfl⟩
  have hest0 : (m.putEnt d s e).est d s = e.est := if_pos ⟨rfl, rfl⟩
  refine well_iff.2 ⟨fun d' s' hd' hs' => ?_, fun k hk => ?_, wm.stamps, wm.datas⟩
  · by_cases ee : d' = d ∧ s' = s
    · obtain ⟨rfl, rfl⟩ := ee
      refine (slot_ok (by unfold named; rw [hname0, hne]; rfl)).2 ⟨by rw [hname0]; exact hnm, ?_, by rw [hino0]; exact c1, by rw [hino0]; exact c2, ?_, ?_⟩
      · have := find_from (m := m.putEnt d' s' e) (d := d') hs (fun j hj => by rw [hname d' j (by omega), hname0]; exact hap j (by omega) (by omega))
        rw [this]; exact Int.le_refl _
      · rw [hino0, hi, Int.toNat_natCast]; exact c3
      · rw [hino0, hest0, hi, Int.toNat_natCast]; exact c4
    · have h0 := wm.slot d' s' hd' hs'
      have en : (m.putEnt d s e).named d' s' = m.named d' s' := by unfold named; rw [hname d' s' ee]
      have ei : (m.putEnt d s e).ino d' s' = m.ino d' s' := if_neg ee
      have ex : (m.putEnt d s e).est d' s' = m.est d' s' := if_neg ee
      cases hnm' : m.named d' s'
      · unfold checkSlot at h0 ⊢
        rw [if_pos hnm'] at h0
        rw [if_pos (by rw [en]; exact hnm'), ei, ex]; exact h0
      · have k := (slot_ok hnm').1 h0
        refine (slot_ok (by rw [en]; exact hnm')).2 ⟨by rw [hname d' s' ee]; exact k.nm, ?_, by rw [ei]; exact k.lo, by rw [ei]; exact k.hi, by rw [ei]; exact k.live, by rw [ei, ex]; exact k.stamp⟩
        have := find_from (m := m.putEnt d s e) (d := d') hs' (fun j hj => by
          rw [hname d' s' ee]
          by_cases ej : d' = d ∧ j = s
          · obtain ⟨rfl, rfl⟩ := ej
            rw [hname0]
            exact fun y => hap s' hs' (fun z => ee ⟨rfl, z⟩) y.symm
          · rw [hname d' j ej]
            exact names_apart hm hd' hs' (by omega) (by omega) hnm')
        rw [this]; exact Int.le_refl _
  · cases hl : m.live k
    · exact checkInode_none (m := m.putEnt d s e) (inode_free_ok hm hk hl : m.inode k = _)
    · have ok := inode_parts_ok hm hk hl
      refine checkInode_live (m := m.putEnt d s e) hl ok.1 ?_ ok.2.2
      have := hrest k
      show ((m.putEnt d s e).refs k : Int) ≤ m.links k
      by_cases ee : k = i
      · subst ee; rw [if_pos rfl] at this; omega
      · rw [if_neg ee] at this; have := ok.2.1; omega
end Img
end Go.Proofs.YtfpfpnhpbnnmfadGreatDoor
namespace Go.Proofs.YtfpfpnhpbnnmfadGreatDoor
open Go.RowKit
structure HasImg (w : World) (b : Nat) (m : Img) : Prop where
  lt : b < w.heap.size
  live : ∀ n : Nat, n < 8 → w.cell? ⟨b, n * 5, none⟩ = some (.bool (m.live n))
  stamp : ∀ n : Nat, n < 8 → w.cell? ⟨b, n * 5 + 1, none⟩ = some (.int .i64 (m.stamp n))
  links : ∀ n : Nat, n < 8 → w.cell? ⟨b, n * 5 + 2, none⟩ = some (.int .i64 (m.links n))
  part : ∀ n p : Nat, n < 8 → p < 2 → w.cell? ⟨b, n * 5 + 3 + p, none⟩ = some (.int .i64 (m.part n p))
  name : ∀ d s : Nat, d < 3 → s < 4 → w.cell? ⟨b, 40 + d * 12 + s * 3, none⟩ = some (.string (m.name d s))
  ino : ∀ d s : Nat, d < 3 → s < 4 → w.cell? ⟨b, 40 + d * 12 + s * 3 + 1, none⟩ = some (.int .i64 (m.ino d s))
  est : ∀ d s : Nat, d < 3 → s < 4 → w.cell? ⟨b, 40 + d * 12 + s * 3 + 2, none⟩ = some (.int .i64 (m.est d s))
  of : ∀ x : Nat, x < 9 → w.cell? ⟨b, 76 + x * 2, none⟩ = some (.int .i64 (m.of x))
  text : ∀ x : Nat, x < 9 → w.cell? ⟨b, 76 + x * 2 + 1, none⟩ = some (.string (m.text x))
  small : ∀ d s : Nat, (m.name d s).size ≤ maxLen
  short : ∀ x : Nat, (m.text x).size ≤ maxLen
theorem HasImg.below {w w' : World} {b : Nat} {m : Img} {B : Nat} (h : HasImg w b m) (hb : Below B w w') (hB : b < B) : HasImg w' b m := by
  have hc : ∀ o, w'.cell? ⟨b, o, none⟩ = w.cell? ⟨b, o, none⟩ := fun o => hb.cell (p := ⟨b, o, none⟩) hB
  have hs := hb.size
  have hl := h.lt
  exact ⟨by omega, fun n h1 => by rw [hc]; exact h.live n h1, fun n h1 => by rw [hc]; exact h.stamp n h1, fun n h1 => by rw [hc]; exact h.links n h1,
    fun n p h1 h2 => by rw [hc]; exact h.part n p h1 h2, fun d s h1 h2 => by rw [hc]; exact h.name d s h1 h2, fun d s h1 h2 => by rw [hc]; exact h.ino d s h1 h2,
    fun d s h1 h2 => by rw [hc]; exact h.est d s h1 h2, fun x h1 => by rw [hc]; exact h.of x h1, fun x h1 => by rw [hc]; exact h.text x h1, h.small, h.short⟩
theorem bcell {W w1 : World} (hb : Below W.heap.size W w1) : (∀ b o, b < W.heap.size → w1.cell? ⟨b, o, none⟩ = W.cell? ⟨b, o, none⟩) ∧ (∀ b o, b < W.heap.size → w1.frozen? ⟨b, o, none⟩ = W.frozen? ⟨b, o, none⟩) :=
  ⟨fun b o h => hb.cell (p := ⟨b, o, none⟩) h, fun b o h => hb.frozen (p := ⟨b, o, none⟩) h⟩
theorem hide {p : Prop} (h : p) : Hid p := h
theorem unhide {p : Prop} (h : Hid p) : p := h
theorem ret_int {k : IntKind} {a b : Int} (h : a = b) : Ending.returned (.int k a) = .returned (.int k b) := by rw [h]
theorem ret_bool {a b : Bool} (h : a = b) : Ending.returned (.bool a) = .returned (.bool b) := by rw [h]
end Go.Proofs.YtfpfpnhpbnnmfadGreatDoor
namespace Go.Proofs.YtfpfpnhpbnnmfadGreatDoor
open Go.RowKit
set_option maxHeartbeats 400000 in
theorem isData_any (x : Int) (w : World) :
    Calls Tryz.prog 224 #[.int .i64 x] w fun e w' => e = .returned (.bool (Img.isD x)) ∧ w' = w := by
  go_enter Tryz.func224, Tryz.ntmps224
  go_wp2
  all_goals
    go_ret
    refine ⟨ret_bool ?_, rfl⟩
    simp [Img.isD]
    try omega
set_option maxHeartbeats 400000 in
theorem isInode_any (x : Int) (w : World) :
    Calls Tryz.prog 222 #[.int .i64 x] w fun e w' => e = .returned (.bool (Img.isI x)) ∧ w' = w := by
  go_enter Tryz.func222, Tryz.ntmps222
  go_wp2
  all_goals
    go_ret
    refine ⟨ret_bool ?_, rfl⟩
    simp [Img.isI]
    try omega
set_option maxHeartbeats 400000 in
theorem find_in (b : Nat) (m : Img) (d : Nat) (hd : d < 3) (nm : ByteArray) (hne : nm.toList.isEmpty = false) (w : World) (hm : HasImg w b m) :
    Calls Tryz.prog 88 #[.pointer (some ⟨b, 0, none⟩), .int .i64 d, .string nm] w fun e w' => e = .returned (.int .i64 (m.find d nm.toList)) ∧ w' = w := by
  have hn := hm.name
  go_enter Tryz.func88, Tryz.ntmps88
  go_wp2
  go_loop [18] (fun i => ∃ k : Nat, k ≤ 4 ∧ i = .int .i64 k ∧ ∀ j, j < k → ((m.name d j).toList == nm.toList) = false) (fun i => 4 - (intOf i).toNat)
  case atStart => exact ⟨0, by omega, rfl, fun j hj => by omega⟩
  case round =>
    obtain ⟨k, hk, rfl, hall⟩ := hrel
    have H := hide hall
    clear hall
    by_cases hlt : k < 4
    · go_wp2
      · rename_i hx _
        go_ret
        exact ⟨ret_int (Img.firstI_at (p := fun s => (m.name d s).toList == nm.toList) hx (unhide H) hlt).symm, rfl⟩
      · rename_i hx
        refine ⟨⟨k + 1, by omega, by go_num, fun j hj => ?_⟩, by simp [intOf]; omega⟩
        by_cases e : j = k
        · subst e; exact hx
        · exact unhide H j (by omega)
    · go_wp2
      go_ret
      exact ⟨ret_int (Img.firstI_none (p := fun s => (m.name d s).toList == nm.toList) fun j hj => unhide H j (by omega)).symm, rfl⟩
set_option maxHeartbeats 400000 in
theorem refs_any (b : Nat) (m : Img) (ino : Int) (w : World) (hm : HasImg w b m) :
    Calls Tryz.prog 157 #[.pointer (some ⟨b, 0, none⟩), .int .i64 ino] w fun e w' => e = .returned (.int .i64 (m.refs ino : Nat)) ∧ w' = w := by
  have hn := hm.name
  have hi := hm.ino
  go_enter Tryz.func157, Tryz.ntmps157
  go_wp2
  go_loop [5, 9] (fun c i => ∃ d : Nat, d ≤ 3 ∧ i = .int .i64 d ∧ c = .int .i64 (m.refsTo ino d : Nat)) (fun _ i => 3 - (intOf i).toNat)
  case atStart => exact ⟨0, by omega, rfl, rfl⟩
  case round =>
    obtain ⟨d, hd, rfl, rfl⟩ := hrel
    have hb := m.refsTo_le ino d
    by_cases hlt : d < 3
    · go_wp2
      go_loop [5, 12] (fun c i => ∃ s : Nat, s ≤ 4 ∧ i = .int .i64 s ∧ c = .int .i64 (m.refsTo ino d + Img.cnt (m.leads ino d) s : Nat)) (fun _ i => 4 - (intOf i).toNat)
      case atStart => exact ⟨0, by omega, rfl, by simp [Img.cnt]⟩
      case round =>
        obtain ⟨s, hs, rfl, rfl⟩ := hrel
        have hc := Img.cnt_le (m.leads ino d) s
        by_cases hls : s < 4
        · rcases m.lead_cases ino d s with ⟨g1, g2⟩ | ⟨g1, g3, g2⟩ | ⟨g1, g3, g2⟩
          · have H := hide (Img.cnt_no g2)
            clear g2
            go_wp2
            exact ⟨⟨s + 1, by omega, by go_num, by rw [unhide H]⟩, by simp [intOf]; omega⟩
          · have H := hide (Img.cnt_yes g2)
            clear g2
            go_wp2
            exact ⟨⟨s + 1, by omega, by go_num, by rw [unhide H]; go_num⟩, by simp [intOf]; omega⟩
          · have H := hide (Img.cnt_no g2)
            clear g2
            go_wp2
            exact ⟨⟨s + 1, by omega, by go_num, by rw [unhide H]⟩, by simp [intOf]; omega⟩
        · have e : s = 4 := by omega
          subst e
          go_wp2
          refine ⟨⟨d + 1, by omega, by go_num, by simp [Img.refsTo]⟩, by simp [intOf]; omega⟩
    · have e : d = 3 := by omega
      subst e
      go_wp2
      go_ret
      exact ⟨rfl, rfl⟩
end Go.Proofs.YtfpfpnhpbnnmfadGreatDoor
namespace Go.Proofs.YtfpfpnhpbnnmfadGreatDoor
open Go.RowKit
theorem all_take_snoc {s : ByteArray} {f : UInt8 → Bool} {k : Nat} (h : k < s.size) : (s.toList.take (k + 1)).all f = ((s.toList.take k).all f && f s[k]) := by
  rw [ByteArray.toList_eq, List.take_succ_eq_append_getElem (by simpa using h), List.all_append]
  simp
  rfl
theorem len_toList (s : ByteArray) : s.toList.length = s.size := by rw [ByteArray.toList_eq]; cases s; rfl
def ltr (c : UInt8) : Bool := decide (97 ≤ c.toNat) && decide (c.toNat ≤ 122)
theorem isNmB_eq (s : ByteArray) : Img.isNmB s.toList = (decide (1 ≤ s.size) && decide (s.size ≤ 6) && s.toList.all ltr) := by
  unfold Img.isNmB; rw [len_toList]; rfl
theorem nm_false_of {s : ByteArray} {k : Nat} (h : k < s.size) (hc : ltr s[k] = false) : Img.isNmB s.toList = false := by
  have h1 := all_take_snoc (f := ltr) h
  rw [hc, Bool.and_false] at h1
  have h2 : s.toList.all ltr = false := by
    rw [← List.take_append_drop (k + 1) s.toList, List.all_append, h1, Bool.false_and]
  rw [isNmB_eq, h2, Bool.and_false]
set_option maxHeartbeats 400000 in
theorem name_any (s : ByteArray) (hs : s.size ≤ maxLen) (w : World) :
    Calls Tryz.prog 221 #[.string s] w fun e w' => e = .returned (.bool (Img.isNmB s.toList)) ∧ w' = w := by
  unfold maxLen at hs
  by_cases h1 : s.size < 1
  · have e : Img.isNmB s.toList = false := by rw [isNmB_eq]; simp; omega
    rw [e]; clear e
    go_enter Tryz.func221, Tryz.ntmps221
    go_wp2
    go_ret
    exact ⟨rfl, rfl⟩
  by_cases h6 : 6 < s.size
  · have e : Img.isNmB s.toList = false := by rw [isNmB_eq]; simp; omega
    rw [e]; clear e
    go_enter Tryz.func221, Tryz.ntmps221
    go_wp2
    go_ret
    exact ⟨rfl, rfl⟩
  go_enter Tryz.func221, Tryz.ntmps221
  go_wp2
  go_loop [14] (fun i => ∃ k : Nat, k ≤ s.size ∧ i = .int .i64 k ∧ (s.toList.take k).all ltr = true) (fun i => s.size - (intOf i).toNat)
  case atStart => exact ⟨0, by omega, rfl, rfl⟩
  case round =>
    obtain ⟨k, hk, rfl, hall⟩ := hrel
    have H := hide hall
    clear hall
    by_cases hlt : k < s.size
    · by_cases hc : 97 ≤ (s[k].toNat : Int) ∧ (s[k].toNat : Int) ≤ 122
      · obtain ⟨c1, c2⟩ := hc
        go_wp2
        refine ⟨⟨k + 1, by omega, by go_num, ?_⟩, by simp [intOf]; omega⟩
        rw [all_take_snoc hlt, unhide H]
        simp [ltr]; omega
      · have e : Img.isNmB s.toList = false := nm_false_of hlt (by simp [ltr]; omega)
        have E := hide e
        clear e
        go_wp2
        all_goals first | (exfalso; omega) | (go_ret; exact ⟨ret_bool (unhide E).symm, rfl⟩)
    · go_wp2
      go_ret
      refine ⟨ret_bool ?_, rfl⟩
      have h2 := unhide H
      rw [List.take_of_length_le (by rw [len_toList]; omega)] at h2
      rw [isNmB_eq, h2]
      simp; omega
set_option maxHeartbeats 400000 in
theorem hasPart_any (b o : Nat) (p0 p1 x : Int) (w : World) (h0 : w.cell? ⟨b, o + 3, none⟩ = some (.int .i64 p0)) (h1 : w.cell? ⟨b, o + 3 + 1, none⟩ = some (.int .i64 p1)) :
    Calls Tryz.prog 225 #[.pointer (some ⟨b, o, none⟩), .int .i64 x] w fun e w' => e = .returned (.bool (p0 == x || p1 == x)) ∧ w' = w := by
  have i0 : ∀ w, (Instr.index 66 (.agg #[.int .i64 p0, .int .i64 p1]) (.int .i64 0)).run Tryz.prog w = .ok (.int .i64 p0) w := fun _ => by kernel_rfl
  have i1 : ∀ w, (Instr.index 66 (.agg #[.int .i64 p0, .int .i64 p1]) (.int .i64 1)).run Tryz.prog w = .ok (.int .i64 p1) w := fun _ => by kernel_rfl
  go_enter Tryz.func225, Tryz.ntmps225
  go_wp2
  go_loop [11] (fun i => ∃ k : Nat, k ≤ 2 ∧ i = .int .i64 k ∧ (1 ≤ k → (p0 == x) = false) ∧ (2 ≤ k → (p1 == x) = false)) (fun i => 2 - (intOf i).toNat)
  case atStart => exact ⟨0, by omega, rfl, fun h => by omega, fun h => by omega⟩
  case round =>
    obtain ⟨k, hk, rfl, g1, g2⟩ := hrel
    have G1 := hide g1
    have G2 := hide g2
    clear g1 g2
    match k, hk with
    | 0, _ =>
      cases hx : p0 == x
      · go_wp2
        exact ⟨⟨1, by omega, by go_num, fun _ => by first | exact hx | trivial, fun h => by omega⟩, by simp [intOf]⟩
      · go_wp2
        go_ret
        exact ⟨ret_bool (by first | rfl | simp_all), rfl⟩
    | 1, _ =>
      cases hx : p1 == x
      · go_wp2
        exact ⟨⟨2, by omega, by go_num, fun _ => unhide G1 (by omega), fun _ => by first | exact hx | trivial⟩, by simp [intOf]⟩
      · go_wp2
        go_ret
        exact ⟨ret_bool (by first | rfl | simp_all), rfl⟩
    | 2, _ =>
      go_wp2
      go_ret
      exact ⟨ret_bool (by rw [unhide G1 (by omega), unhide G2 (by omega)]; rfl), rfl⟩
set_option maxHeartbeats 400000 in
theorem checkPart_any (b : Nat) (m : Img) (p st : Int) (w : World) (hm : HasImg w b m) :
    Calls Tryz.prog 223 #[.pointer (some ⟨b, 0, none⟩), .int .i64 p, .int .i64 st] w fun e w' => e = .returned (.int .i64 (m.checkPart p st)) ∧ w' = w := by
  have hof := hm.of
  cases h1 : p == -1
  · cases h2 : Img.isD p
    · have E := hide (show m.checkPart p st = 1 by unfold Img.checkPart; rw [if_neg (by simpa using h1), if_pos h2])
      go_enter Tryz.func223, Tryz.ntmps223
      go_wp2_with (go_at_call 224; refine (isData_any _ _).mono ?_; rintro e w' ⟨rfl, rfl⟩)
      go_ret
      exact ⟨ret_int (unhide E).symm, rfl⟩
    · have hb : 0 ≤ p ∧ p < 9 := by simpa [Img.isD] using h2
      obtain ⟨k, rfl⟩ := Int.eq_ofNat_of_zero_le hb.1
      have hk : k < 9 := by omega
      have hcell := hof k hk
      cases h3 : m.of k == st
      · have E := hide (show m.checkPart (k : Int) st = 10 by unfold Img.checkPart; rw [if_neg (by omega), if_neg (by rw [h2]; simp), Int.toNat_natCast, if_pos (by simpa using h3)])
        go_enter Tryz.func223, Tryz.ntmps223
        go_wp2_with (go_at_call 224; refine (isData_any _ _).mono ?_; rintro e w' ⟨rfl, rfl⟩)
        go_ret
        exact ⟨ret_int (unhide E).symm, rfl⟩
      · have E := hide (show m.checkPart (k : Int) st = 0 by unfold Img.checkPart; rw [if_neg (by omega), if_neg (by rw [h2]; simp), Int.toNat_natCast, if_neg (by simpa using h3)])
        go_enter Tryz.func223, Tryz.ntmps223
        go_wp2_with (go_at_call 224; refine (isData_any _ _).mono ?_; rintro e w' ⟨rfl, rfl⟩)
        go_ret
        exact ⟨ret_int (unhide E).symm, rfl⟩
  · have E := hide (show m.checkPart p st = 0 by unfold Img.checkPart; rw [if_pos (by simpa using h1)])
    go_enter Tryz.func223, Tryz.ntmps223
    go_wp2
    go_ret
    exact ⟨ret_int (unhide E).symm, rfl⟩
set_option maxHeartbeats 400000 in
theorem holds_any (b : Nat) (m : Img) (x : Int) (w : World) (hm : HasImg w b m) :
    Calls Tryz.prog 196 #[.pointer (some ⟨b, 0, none⟩), .int .i64 x] w fun e w' => e = .returned (.bool (m.holds x)) ∧ w' = w := by
  have hlv := hm.live
  cases h2 : Img.isD x
  · have E := hide (show m.holds x = false by unfold Img.holds; rw [h2]; rfl)
    go_enter Tryz.func196, Tryz.ntmps196
    go_wp2_with (go_at_call 224; refine (isData_any _ _).mono ?_; rintro e w' ⟨rfl, rfl⟩)
    go_ret
    exact ⟨ret_bool (unhide E).symm, rfl⟩
  · have E := hide (show m.holds x = Img.anyB (fun n => m.live n && m.hasPart n x) 8 by unfold Img.holds; rw [h2]; rfl)
    go_enter Tryz.func196, Tryz.ntmps196
    go_wp2_with (go_at_call 224; refine (isData_any _ _).mono ?_; rintro e w' ⟨rfl, rfl⟩)
    go_loop [9] (fun i => ∃ k : Nat, k ≤ 8 ∧ i = .int .i64 k ∧ ∀ j, j < k → (m.live j && m.hasPart j x) = false) (fun i => 8 - (intOf i).toNat)
    case atStart => exact ⟨0, by omega, rfl, fun j hj => by omega⟩
    case round =>
      obtain ⟨k, hk, rfl, hall⟩ := hrel
      have H := hide hall
      clear hall
      by_cases hlt : k < 8
      · have hp0 := hm.part k 0 hlt (by omega)
        have hp1 := hm.part k 1 hlt (by omega)
        have step : (m.live k && m.hasPart k x) = false → ∀ j, j < k + 1 → (m.live j && m.hasPart j x) = false := fun h j hj => by
          by_cases e : j = k
          · subst e; exact h
          · exact unhide H j (by omega)
        have S := hide step
        clear step
        cases hl : m.live k
        · have hl' := hlv k hlt
          rw [hl] at hl'
          go_wp2
          exact ⟨⟨k + 1, by omega, by go_num, unhide S (by rw [hl]; rfl)⟩, by simp [intOf]; omega⟩
        · have hl' := hlv k hlt
          rw [hl] at hl'
          cases hq : m.hasPart k x
          · have hq' : (m.part k 0 == x || m.part k 1 == x) = false := hq
            go_wp2_with (go_at_call 225; refine (hasPart_any _ _ _ _ _ _ hp0 hp1).mono ?_; rw [hq']; rintro e w' ⟨rfl, rfl⟩)
            exact ⟨⟨k + 1, by omega, by go_num, unhide S (by rw [hq, Bool.and_false])⟩, by simp [intOf]; omega⟩
          · have hq' : (m.part k 0 == x || m.part k 1 == x) = true := hq
            go_wp2_with (go_at_call 225; refine (hasPart_any _ _ _ _ _ _ hp0 hp1).mono ?_; rw [hq']; rintro e w' ⟨rfl, rfl⟩)
            go_ret
            exact ⟨ret_bool (by rw [unhide E]; exact (Img.anyB_true hlt (by rw [hl, hq]; rfl)).symm), rfl⟩
      · go_wp2
        go_ret
        exact ⟨ret_bool (by rw [unhide E]; exact (Img.anyB_false.2 fun j hj => unhide H j (by omega)).symm), rfl⟩
end Go.Proofs.YtfpfpnhpbnnmfadGreatDoor
