/-
  Plain laws of images: a name less. No Go in here.
-/
import Derived.Test.YtlbgkpibaahglacDoorPa
namespace Go.Proofs.YtlbgkpibaahglacDoor
namespace Img
variable {m : Img}
theorem cnt_congr {p q : Nat → Bool} : ∀ {n : Nat}, (∀ j, j < n → p j = q j) → cnt p n = cnt q n
  | 0, _ => rfl
  | n + 1, h => by
    have h1 := cnt_congr (p := p) (q := q) (n := n) (fun j hj => h j (by omega))
    unfold cnt
    rw [h1, h n (by omega)]
theorem cnt_less {p q : Nat → Bool} {s : Nat} (hp : p s = false) (hq : q s = true) (h : ∀ j, j ≠ s → p j = q j) : ∀ {n : Nat}, s < n → cnt p n + 1 = cnt q n
  | 0, hs => by omega
  | n + 1, hs => by
    by_cases e : s = n
    · subst e
      have h1 := cnt_congr (p := p) (q := q) (n := s) (fun j hj => h j (by omega))
      rw [cnt_no hp, cnt_yes hq, h1]
    · have h1 := cnt_less hp hq h (n := n) (by omega)
      unfold cnt
      rw [h n (by omega)]
      omega
def clear (m : Img) (d s : Nat) : Img :=
  { m with
    name := fun d' s' => if d' = d ∧ s' = s then ⟨#[]⟩ else m.name d' s'
    ino := fun d' s' => if d' = d ∧ s' = s then 0 else m.ino d' s'
    est := fun d' s' => if d' = d ∧ s' = s then 0 else m.est d' s' }
variable {d s : Nat}
theorem clear_name_at : (m.clear d s).name d s = ⟨#[]⟩ := if_pos ⟨rfl, rfl⟩
theorem clear_name {d' s' : Nat} (h : ¬ (d' = d ∧ s' = s)) : (m.clear d s).name d' s' = m.name d' s' := if_neg h
theorem clear_ino {d' s' : Nat} (h : ¬ (d' = d ∧ s' = s)) : (m.clear d s).ino d' s' = m.ino d' s' := if_neg h
theorem clear_est {d' s' : Nat} (h : ¬ (d' = d ∧ s' = s)) : (m.clear d s).est d' s' = m.est d' s' := if_neg h
theorem empty_list : (⟨#[]⟩ : ByteArray).toList = [] := by decide +kernel
theorem clear_named_at : (m.clear d s).named d s = false := by unfold named; rw [clear_name_at, empty_list]; rfl
theorem clear_named {d' s' : Nat} (h : ¬ (d' = d ∧ s' = s)) : (m.clear d s).named d' s' = m.named d' s' := by unfold named; rw [clear_name h]
theorem clear_leads_at (ino : Int) : (m.clear d s).leads ino d s = false := by unfold leads; rw [clear_named_at]; rfl
theorem clear_leads (ino : Int) {d' s' : Nat} (h : ¬ (d' = d ∧ s' = s)) : (m.clear d s).leads ino d' s' = m.leads ino d' s' := by unfold leads; rw [clear_named h, clear_ino h]
theorem clear_cnt_other (ino : Int) {d' : Nat} (h : d' ≠ d) : cnt ((m.clear d s).leads ino d') 4 = cnt (m.leads ino d') 4 :=
  cnt_congr fun _ _ => clear_leads ino (fun x => h x.1)
theorem clear_cnt_same (ino : Int) (hs : s < 4) (h : m.leads ino d s = true) : cnt ((m.clear d s).leads ino d) 4 + 1 = cnt (m.leads ino d) 4 :=
  cnt_less (s := s) (clear_leads_at ino) h (fun _ hj => clear_leads ino (fun x => hj x.2)) hs
theorem clear_cnt_not (ino : Int) (h : m.leads ino d s = false) : cnt ((m.clear d s).leads ino d) 4 = cnt (m.leads ino d) 4 :=
  cnt_congr fun j _ => by
    by_cases e : j = s
    · subst e; rw [clear_leads_at, h]
    · exact clear_leads ino (fun x => e x.2)
theorem clear_refsTo_lo (ino : Int) : ∀ {k : Nat}, k ≤ d → (m.clear d s).refsTo ino k = m.refsTo ino k
  | 0, _ => rfl
  | k + 1, h => by
    unfold refsTo
    rw [clear_refsTo_lo ino (k := k) (by omega), clear_cnt_other ino (by omega)]
theorem clear_refsTo_not (ino : Int) (hn : m.leads ino d s = false) : ∀ {k : Nat}, (m.clear d s).refsTo ino k = m.refsTo ino k
  | 0 => rfl
  | k + 1 => by
    unfold refsTo
    rw [clear_refsTo_not ino hn (k := k)]
    by_cases e : k = d
    · subst e; rw [clear_cnt_not ino hn]
    · rw [clear_cnt_other ino e]
theorem clear_refsTo_yes (ino : Int) (hs : s < 4) (hn : m.leads ino d s = true) : ∀ {k : Nat}, d < k → (m.clear d s).refsTo ino k + 1 = m.refsTo ino k
  | 0, h => by omega
  | k + 1, h => by
    unfold refsTo
    by_cases e : k = d
    · subst e
      have h1 := clear_cnt_same ino hs hn
      have h2 := clear_refsTo_lo (m := m) (s := s) ino (k := k) (d := k) (Nat.le_refl _)
      omega
    · have h1 := clear_refsTo_yes ino hs hn (k := k) (by omega)
      have h2 := clear_cnt_other (m := m) (d := d) (s := s) ino e
      omega
theorem clear_refs_not (ino : Int) (hn : m.leads ino d s = false) : (m.clear d s).refs ino = m.refs ino := clear_refsTo_not ino hn
theorem clear_refs_yes (ino : Int) (hd : d < 3) (hs : s < 4) (hn : m.leads ino d s = true) : (m.clear d s).refs ino + 1 = m.refs ino := clear_refsTo_yes ino hs hn hd
theorem clear_refs_le (ino : Int) (hd : d < 3) (hs : s < 4) : (m.clear d s).refs ino ≤ m.refs ino := by
  cases h : m.leads ino d s
  · rw [clear_refs_not ino h]; exact Nat.le_refl _
  · have := clear_refs_yes ino hd hs h; omega
theorem find_none_before {d' s' : Nat} (h : (s' : Int) ≤ m.find d' (m.name d' s').toList) : ∀ j, j < s' → ((m.name d' j).toList == (m.name d' s').toList) = false := by
  unfold find at h
  intro j hj
  rcases firstI_cases (fun x => (m.name d' x).toList == (m.name d' s').toList) 4 with ⟨h1, _⟩ | ⟨k, hk, h1, _, h3⟩
  · rw [h1] at h; omega
  · rw [h1] at h
    exact h3 j (by omega)
theorem clear_slot (h : Well m) {d' s' : Nat} (hd' : d' < 3) (hs' : s' < 4) : (m.clear d s).checkSlot d' s' = 0 := by
  by_cases e : d' = d ∧ s' = s
  · obtain ⟨rfl, rfl⟩ := e
    unfold checkSlot
    rw [if_pos clear_named_at, if_pos ⟨if_pos ⟨rfl, rfl⟩, if_pos ⟨rfl, rfl⟩⟩]
  · have h0 := h.slot d' s' hd' hs'
    cases hn : m.named d' s'
    · have hn' : (m.clear d s).named d' s' = false := by rw [clear_named e]; exact hn
      unfold checkSlot at h0 ⊢
      rw [if_pos hn] at h0
      rw [if_pos hn', clear_ino e, clear_est e]
      exact h0
    · have hn' : (m.clear d s).named d' s' = true := by rw [clear_named e]; exact hn
      have k := (slot_ok hn).1 h0
      refine (slot_ok hn').2 ⟨by rw [clear_name e]; exact k.nm, ?_, by rw [clear_ino e]; exact k.lo, by rw [clear_ino e]; exact k.hi, by rw [clear_ino e]; exact k.live, by rw [clear_ino e, clear_est e]; exact k.stamp⟩
      rw [clear_name e]
      have hb := find_none_before k.first
      have : (m.clear d s).find d' (m.name d' s').toList = s' := by
        refine firstI_at (by show (((m.clear d s).name d' s').toList == (m.name d' s').toList) = true; rw [clear_name e]; simp) (fun j hj => ?_) hs'
        show (((m.clear d s).name d' j).toList == (m.name d' s').toList) = false
        by_cases ej : d' = d ∧ j = s
        · obtain ⟨rfl, rfl⟩ := ej
          rw [clear_name_at, empty_list]
          have : (m.name d' s').toList.isEmpty = false := by simpa [named] using hn
          cases hl : (m.name d' s').toList
          · rw [hl] at this; cases this
          · rfl
        · rw [clear_name ej]; exact hb j hj
      omega
theorem clear_inode (h : Well m) (hd : d < 3) (hs : s < 4) {n : Nat} (hn : n < 8) : (m.clear d s).checkInode n = 0 := by
  have h0 := h.inode n hn
  unfold checkInode at h0 ⊢
  show (if m.live n = false then (if m.free n then (0 : Int) else 12) else if m.stamp n < 1 ∨ m.links n < (m.clear d s).refs n then 9 else firstNZ (fun p => m.checkPart (m.part n p) (m.stamp n)) 2) = 0
  by_cases hl : m.live n = false
  · rw [if_pos hl] at h0 ⊢; exact h0
  · rw [if_neg hl] at h0 ⊢
    have hle := clear_refs_le (m := m) (d := d) (s := s) n hd hs
    by_cases hb : m.stamp n < 1 ∨ m.links n < m.refs n
    · rw [if_pos hb] at h0; simp at h0
    · rw [if_neg hb] at h0
      rw [if_neg (by omega)]; exact h0
theorem clear_check (h : m.check = 0) (hd : d < 3) (hs : s < 4) : (m.clear d s).check = 0 :=
  have w := well_iff.1 h
  well_iff.2 ⟨fun _ _ hd' hs' => clear_slot w hd' hs', fun _ hn => clear_inode w hd hs hn, w.stamps, w.datas⟩
theorem exact_check (h : m.exact = true) : m.check = 0 := by
  unfold exact at h
  rw [Bool.and_eq_true, decide_eq_true_eq] at h
  exact h.1
theorem exact_links (h : m.exact = true) {n : Nat} (hn : n < 8) (hl : m.live n = true) : 1 ≤ m.links n ∧ m.links n = m.refs n := by
  unfold exact at h
  rw [Bool.and_eq_true, Bool.not_eq_true', anyB_false] at h
  have := h.2 n hn
  rw [hl, Bool.true_and, Bool.or_eq_false_iff, decide_eq_false_iff_not] at this
  exact ⟨by omega, by simpa using this.2⟩
theorem clear_exact (h : m.exact = true) (hd : d < 3) (hs : s < 4) (hn : m.named d s = true) : (m.clear d s).exact = false := by
  have k := (slot_ok hn).1 ((well_iff.1 (exact_check h)).slot d s hd hs)
  obtain ⟨i, hi⟩ := Int.eq_ofNat_of_zero_le k.lo
  have hi8 : i < 8 := by have := k.hi; omega
  have hlv : m.live i = true := by have := k.live; rwa [hi, Int.toNat_natCast] at this
  have hl := exact_links h hi8 hlv
  have hld : m.leads (i : Int) d s = true := by unfold leads; rw [hn, hi]; simp
  have hr := clear_refs_yes (i : Int) hd hs hld
  unfold exact
  rw [Bool.and_eq_false_iff]
  right
  rw [Bool.not_eq_false']
  refine anyB_true hi8 ?_
  show (m.live i && (decide (m.links i < 1) || !(m.links i == ((m.clear d s).refs i : Int)))) = true
  have : (m.links i == ((m.clear d s).refs i : Int)) = false := by simp; omega
  rw [hlv, this]; simp
end Img
end Go.Proofs.YtlbgkpibaahglacDoor
