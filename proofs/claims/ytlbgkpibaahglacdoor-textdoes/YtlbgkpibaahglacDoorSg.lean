/-
  Plain laws of layer 3: Union, counted ahead, the last name stays, a block is a block. No Go in here.
-/
import Derived.Test.YtlbgkpibaahglacDoorSf
namespace Go.Proofs.YtlbgkpibaahglacDoor
namespace Img
variable {now disk : Img}
theorem cnt_or_ge {p q r : Nat → Bool} (h : ∀ j, r j = (p j || q j)) : ∀ n, cnt p n ≤ cnt r n ∧ cnt q n ≤ cnt r n ∧ cnt r n ≤ cnt p n + cnt q n
  | 0 => ⟨Nat.le_refl _, Nat.le_refl _, Nat.le_refl _⟩
  | n + 1 => by
    obtain ⟨h1, h2, h3⟩ := cnt_or_ge h n
    unfold cnt
    rw [h n]
    cases p n <;> cases q n <;> simp <;> omega
theorem uniTo_bounds (a b : Img) (ino : Int) : ∀ d, a.refsTo ino d ≤ uniTo a b ino d ∧ b.refsTo ino d ≤ uniTo a b ino d ∧ uniTo a b ino d ≤ a.refsTo ino d + b.refsTo ino d
  | 0 => ⟨Nat.le_refl _, Nat.le_refl _, Nat.le_refl _⟩
  | d + 1 => by
    obtain ⟨h1, h2, h3⟩ := uniTo_bounds a b ino d
    obtain ⟨g1, g2, g3⟩ := cnt_or_ge (p := a.leads ino d) (q := b.leads ino d) (r := both a b ino d) (fun _ => rfl) 4
    unfold refsTo uniTo
    omega
theorem uni_bounds (a b : Img) (ino : Int) : a.refs ino ≤ uni a b ino ∧ b.refs ino ≤ uni a b ino ∧ uni a b ino ≤ a.refs ino + b.refs ino := uniTo_bounds a b ino 3
theorem uni_comm (a b : Img) (ino : Int) : uni a b ino = uni b a ino := by
  have hb : ∀ d, both a b ino d = both b a ino d := fun d => by funext s; unfold both; exact Bool.or_comm _ _
  have : ∀ d, uniTo a b ino d = uniTo b a ino d := fun d => by
    induction d with
    | zero => rfl
    | succ d ih => unfold uniTo; rw [ih, hb]
  exact this 3
theorem uni_self (a : Img) (ino : Int) : uni a a ino = a.refs ino := by
  have hb : ∀ d, both a a ino d = a.leads ino d := fun d => by funext s; unfold both; exact Bool.or_self _
  have : ∀ d, uniTo a a ino d = a.refsTo ino d := fun d => by
    induction d with
    | zero => rfl
    | succ d ih => unfold uniTo refsTo; rw [ih, hb]
  exact this 3
theorem leads_of_dirs {a b : Img} (h1 : a.name = b.name) (h2 : a.ino = b.ino) (ino : Int) : a.leads ino = b.leads ino := by funext d s; simp [leads, named, h1, h2]
theorem uni_of_dirs {a b : Img} (now : Img) (h1 : a.name = b.name) (h2 : a.ino = b.ino) (ino : Int) : uni now a ino = uni now b ino := by
  have hb : both now a ino = both now b ino := by funext d s; unfold both; rw [leads_of_dirs h1 h2]
  have : ∀ d, uniTo now a ino d = uniTo now b ino d := fun d => by
    induction d with
    | zero => rfl
    | succ d ih => unfold uniTo; rw [ih, hb]
  exact this 3
theorem refs_pos_of_leads {m : Img} {ino : Int} {d s : Nat} (hd : d < 3) (hs : s < 4) (h : m.leads ino d s = true) : 0 < m.refs ino := by
  have h1 := clear_refs_yes (m := m) ino hd hs h
  omega
/-! counted ahead -/
/-- what SafeCounts asks of an inode that was written -/
structure Counted (now disk : Img) (n : Nat) (i : Ino) : Prop where
  dead : i.live = false → i = Ino.none ∧ now.live n = false
  more : i.live = true → (disk.refs n : Int) ≤ i.links ∧ (now.refs n : Int) ≤ i.links
  part : i.live = true → ∀ p, p < 2 → ((if p = 0 then i.p0 else i.p1) = -1 ∨ (disk.live n = true ∧ disk.stamp n = i.stamp ∧ disk.part n p = (if p = 0 then i.p0 else i.p1)) ∨
    (isD (if p = 0 then i.p0 else i.p1) = true ∧ disk.of (if p = 0 then i.p0 else i.p1).toNat = i.stamp))
theorem partAs_cases (now disk : Img) (n p : Nat) : partAs now disk n p = -1 ∨ (disk.live n = true ∧ disk.stamp n = now.stamp n ∧ partAs now disk n p = disk.part n p) ∨ (isD (now.part n p) = true ∧ disk.of (now.part n p).toNat = now.stamp n ∧ partAs now disk n p = now.part n p) := by
  unfold partAs
  by_cases h1 : isD (now.part n p) = false
  · rw [if_pos h1]; exact .inl rfl
  · rw [if_neg h1]
    have h1' : isD (now.part n p) = true := by simpa using h1
    by_cases h2 : disk.of (now.part n p).toNat = now.stamp n
    · rw [if_pos h2]; exact .inr (.inr ⟨h1', h2, rfl⟩)
    · rw [if_neg h2]
      by_cases h3 : disk.live n = true ∧ disk.stamp n = now.stamp n
      · rw [if_pos h3]; exact .inr (.inl ⟨h3.1, h3.2, rfl⟩)
      · rw [if_neg h3]; exact .inl rfl
theorem inodeAs_cases (now disk : Img) (n : Nat) :
    (now.live n = true ∧ inodeAs now disk n = ⟨true, now.stamp n, uni now disk n, partAs now disk n 0, partAs now disk n 1⟩) ∨
    (now.live n = false ∧ disk.live n = true ∧ uni now disk n ≠ 0 ∧ inodeAs now disk n = ⟨true, disk.stamp n, uni now disk n, disk.part n 0, disk.part n 1⟩) ∨
    (now.live n = false ∧ (disk.live n = false ∨ uni now disk n = 0) ∧ inodeAs now disk n = Ino.none) := by
  unfold inodeAs
  by_cases h1 : now.live n = true
  · rw [if_pos h1]; exact .inl ⟨h1, rfl⟩
  · rw [if_neg h1]
    have h1' : now.live n = false := by simpa using h1
    by_cases h2 : disk.live n = true ∧ uni now disk n ≠ 0
    · rw [if_pos h2]; exact .inr (.inl ⟨h1', h2.1, h2.2, rfl⟩)
    · rw [if_neg h2]
      refine .inr (.inr ⟨h1', ?_, rfl⟩)
      cases hl : disk.live n
      · exact .inl rfl
      · right
        by_cases e : uni now disk n = 0
        · exact e
        · exact absurd ⟨hl, e⟩ h2
theorem counted (now disk : Img) (n : Nat) : Counted now disk n (inodeAs now disk n) := by
  obtain ⟨b1, b2, _⟩ := uni_bounds now disk (n : Int)
  rcases inodeAs_cases now disk n with ⟨h1, e⟩ | ⟨h1, h2, h3, e⟩ | ⟨h1, h2, e⟩
  · rw [e]
    refine ⟨fun h => by simp at h, fun _ => ⟨by simp; omega, by simp; omega⟩, fun _ p hp => ?_⟩
    have key : ∀ p, partAs now disk n p = -1 ∨ (disk.live n = true ∧ disk.stamp n = now.stamp n ∧ disk.part n p = partAs now disk n p) ∨ (isD (partAs now disk n p) = true ∧ disk.of (partAs now disk n p).toNat = now.stamp n) := fun p => by
      rcases partAs_cases now disk n p with x | ⟨x1, x2, x3⟩ | ⟨x1, x2, x3⟩
      · exact .inl x
      · exact .inr (.inl ⟨x1, x2, x3.symm⟩)
      · rw [x3]; exact .inr (.inr ⟨x1, x2⟩)
    match p, hp with
    | 0, _ => exact key 0
    | 1, _ => exact key 1
  · rw [e]
    refine ⟨fun h => by simp at h, fun _ => ⟨by simp; omega, by simp; omega⟩, fun _ p hp => .inr (.inl ?_)⟩
    match p, hp with
    | 0, _ => exact ⟨h2, rfl, rfl⟩
    | 1, _ => exact ⟨h2, rfl, rfl⟩
  · rw [e]
    exact ⟨fun _ => ⟨rfl, h1⟩, fun h => by simp [Ino.none] at h, fun h => by simp [Ino.none] at h⟩
/-! the last name stays -/
theorem entryAs_cases (now m : Img) (d s : Nat) :
    (entryAs now m d s = m.entry d s) ∨
    (m.named d s = false ∧ mayCome m (now.ino d s) (now.est d s) = true ∧ entryAs now m d s = now.entry d s) ∨
    (m.named d s = true ∧ mayGo now m (m.ino d s) = true ∧ entryAs now m d s = Ent.none) := by
  unfold entryAs
  by_cases h1 : sameEnt now m d s = true
  · rw [if_pos h1]; exact .inl rfl
  · rw [if_neg h1]
    by_cases h2 : m.named d s = false
    · rw [if_pos h2]
      by_cases h3 : mayCome m (now.ino d s) (now.est d s) = true
      · rw [if_pos h3]; exact .inr (.inl ⟨h2, h3, rfl⟩)
      · rw [if_neg h3]; exact .inl rfl
    · rw [if_neg h2]
      by_cases h3 : mayGo now m (m.ino d s) = true
      · rw [if_pos h3]; exact .inr (.inr ⟨by simpa using h2, h3, rfl⟩)
      · rw [if_neg h3]; exact .inl rfl
theorem mayCome_iff {m : Img} {ino est : Int} (h : mayCome m ino est = true) : 0 ≤ ino ∧ ino < 8 ∧ m.live ino.toNat = true ∧ m.stamp ino.toNat = est ∧ (m.refs ino : Int) < m.links ino.toNat := by
  unfold mayCome isI at h
  simp at h
  exact ⟨h.1.1, h.1.2, h.2.1.1, h.2.1.2, h.2.2⟩
theorem mayGo_iff {m : Img} {ino : Int} (h : mayGo now m ino = true) : 1 < m.refs ino ∨ now.refs ino = 0 := by
  unfold mayGo at h
  simpa using h
theorem none_leads (ino : Int) : Ent.leads Ent.none ino = false := by
  unfold Ent.leads Ent.none
  rw [show (⟨#[]⟩ : ByteArray).toList = [] from empty_list]; rfl
/-- what a Write of a directory keeps, slot by slot -/
structure Kept (now disk m : Img) (n : Nat) : Prop where
  last : 0 < disk.refs n → 0 < now.refs n → 0 < m.refs n
  more : m.refs n ≤ disk.refs n ∨ (m.live n = true ∧ (m.refs n : Int) ≤ m.links n)
theorem kept_dir (now disk : Img) (d : Nat) (hd : d < 3) (n : Nat) : ∀ s, s ≤ 4 → Kept now disk (wDir now disk d s) n
  | 0, _ => ⟨fun h _ => h, .inl (Nat.le_refl _)⟩
  | s + 1, hs => by
    have ih := kept_dir now disk d hd n s (by omega)
    have hr := putEnt_refs (wDir now disk d s) (d := d) (s := s) (entryAs now (wDir now disk d s) d s) (n : Int) hd (by omega)
    have hw : wDir now disk d (s + 1) = (wDir now disk d s).putEnt d s (entryAs now (wDir now disk d s) d s) := rfl
    rw [← hw] at hr
    have hlv : (wDir now disk d (s + 1)).live n = (wDir now disk d s).live n := rfl
    have hlk : (wDir now disk d (s + 1)).links n = (wDir now disk d s).links n := rfl
    rcases entryAs_cases now (wDir now disk d s) d s with e | ⟨h1, h2, e⟩ | ⟨h1, h2, e⟩
    · rw [e, entry_leads] at hr
      have e2 : (wDir now disk d (s + 1)).refs n = (wDir now disk d s).refs n := by omega
      exact ⟨by rw [e2]; exact ih.last, by rw [e2, hlv, hlk]; exact ih.more⟩
    · rw [e, entry_leads] at hr
      have hl0 : (wDir now disk d s).leads n d s = false := by unfold leads; rw [h1]; rfl
      rw [hl0] at hr
      obtain ⟨c1, c2, c3, c4, c5⟩ := mayCome_iff h2
      cases hc : now.leads n d s
      · rw [hc] at hr
        have e2 : (wDir now disk d (s + 1)).refs n = (wDir now disk d s).refs n := by omega
        exact ⟨by rw [e2]; exact ih.last, by rw [e2, hlv, hlk]; exact ih.more⟩
      · rw [hc] at hr
        have hino : now.ino d s = (n : Int) := by
          unfold leads at hc
          simp at hc
          exact hc.2
        rw [hino] at c3 c5
        rw [Int.toNat_natCast] at c3 c5
        simp [b2n] at hr
        refine ⟨fun a b => by omega, .inr ⟨by rw [hlv]; exact c3, by rw [hlk]; omega⟩⟩
    · rw [e, none_leads] at hr
      cases hc : (wDir now disk d s).leads n d s
      · rw [hc] at hr
        have e2 : (wDir now disk d (s + 1)).refs n = (wDir now disk d s).refs n := by omega
        exact ⟨by rw [e2]; exact ih.last, by rw [e2, hlv, hlk]; exact ih.more⟩
      · rw [hc] at hr
        simp [b2n] at hr
        have hino : (wDir now disk d s).ino d s = (n : Int) := by
          unfold leads at hc
          simp at hc
          exact hc.2
        rw [hino] at h2
        have hg := mayGo_iff h2
        refine ⟨fun a b => by omega, ?_⟩
        rcases ih.more with x | ⟨x1, x2⟩
        · left; omega
        · right; exact ⟨by rw [hlv]; exact x1, by rw [hlk]; omega⟩
theorem kept (now disk : Img) (b : Int) (n : Nat) : Kept now disk (write now disk b) n := by
  rcases blocks b with h | ⟨k, hk, rfl⟩ | ⟨d, hd, rfl⟩ | ⟨x, hx, rfl⟩
  · rw [write_out h]; exact ⟨fun h _ => h, .inl (Nat.le_refl _)⟩
  · rw [write_ino hk]
    have hr := wInos_rest now disk (k * 4) 4
    have e := refs_of_dirs hr.1 hr.2.1 (n : Int)
    exact ⟨fun h _ => by rw [e]; exact h, .inl (by rw [e]; exact Nat.le_refl _)⟩
  · rw [write_dir hd]; exact kept_dir now disk d hd n 4 (by omega)
  · rw [write_data hx]
    exact ⟨fun h _ => h, .inl (Nat.le_refl _)⟩
/-- what SafeLast asks of a slot -/
def SlotLast (now disk x : Img) (d s : Nat) : Prop :=
  disk.entry d s = x.entry d s ∨ x.named d s = false ∨ (x.entry d s = now.entry d s ∧ 0 ≤ x.ino d s ∧ x.ino d s < 8 ∧ disk.stamp (x.ino d s).toNat = x.est d s)
theorem slotLast (now disk : Img) (b : Int) (d s : Nat) (hs : s < 4) : SlotLast now disk (write now disk b) d s := by
  rcases blocks b with h | ⟨k, hk, rfl⟩ | ⟨d', hd, rfl⟩ | ⟨x, hx, rfl⟩
  · rw [write_out h]; exact .inl rfl
  · rw [write_ino hk]
    have hr := wInos_rest now disk (k * 4) 4
    left; unfold entry; rw [hr.1, hr.2.1, hr.2.2.1]
  · rw [write_dir hd]
    by_cases e : d = d'
    · subst e
      have h0 := wDir_entry_done now disk d 4 s hs
      have h1 := wDir_entry_other now disk d (d' := d) (s' := s) s (.inr (Nat.le_refl _))
      have hst := (wDir_rest now disk d s).2.1
      unfold SlotLast
      rcases entryAs_cases now (wDir now disk d s) d s with e | ⟨g1, g2, e⟩ | ⟨g1, g2, e⟩
      · left; rw [h0, e, h1]
      · rw [e] at h0
        obtain ⟨c1, c2, c3, c4, c5⟩ := mayCome_iff g2
        obtain ⟨n1, n2, n3⟩ := named_entry h0
        right; right
        rw [n2, n3, hst] at *
        exact ⟨h0, c1, c2, c4⟩
      · rw [e] at h0
        right; left
        have : (wDir now disk d 4).name d s = ⟨#[]⟩ := by
          have := congrArg Ent.name h0
          exact this
        unfold named; rw [this, empty_list]; rfl
    · left
      exact (wDir_entry_other now disk d' (d' := d) (s' := s) 4 (.inl e)).symm
  · rw [write_data hx]; exact .inl rfl
end Img
end Go.Proofs.YtlbgkpibaahglacDoor
