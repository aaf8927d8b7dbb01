/-
  Plain laws of layer 3: a block is a block. No Go in here.
-/
import Derived.Test.YtlbgkpibaahglacDoorSg
namespace Go.Proofs.YtlbgkpibaahglacDoor
namespace Img
variable {now disk : Img}
theorem Agree.mk3 {a b : Img} (h1 : ∀ n, n < 8 → a.inode n = b.inode n) (h2 : ∀ d s, d < 3 → s < 4 → a.entry d s = b.entry d s) (h3 : ∀ x, x < 9 → a.of x = b.of x ∧ a.text x = b.text x) : Agree a b :=
  ⟨fun n h => (inode_eq (h1 n h)).1, fun n h => (inode_eq (h1 n h)).2.1, fun n h => (inode_eq (h1 n h)).2.2.1, fun n p h hp => (inode_eq (h1 n h)).2.2.2 p hp,
   fun d s h h' => (named_entry (h2 d s h h')).1, fun d s h h' => (named_entry (h2 d s h h')).2.1, fun d s h h' => (named_entry (h2 d s h h')).2.2, fun x h => (h3 x h).1, fun x h => (h3 x h).2⟩
/-- inodes as they were -/
def backInos (x disk : Img) (n : Nat) : Nat → Img
  | 0 => x
  | k + 1 => (backInos x disk n k).putIno (n + k) (disk.inode (n + k))
theorem backInos_rest (x disk : Img) (n : Nat) : ∀ k, (backInos x disk n k).name = x.name ∧ (backInos x disk n k).ino = x.ino ∧ (backInos x disk n k).est = x.est ∧ (backInos x disk n k).of = x.of ∧ (backInos x disk n k).text = x.text
  | 0 => ⟨rfl, rfl, rfl, rfl, rfl⟩
  | k + 1 => backInos_rest x disk n k
theorem backInos_at (x disk : Img) (n : Nat) : ∀ k j, j < k → (backInos x disk n k).inode (n + j) = disk.inode (n + j)
  | 0, j, h => by omega
  | k + 1, j, h => by
    by_cases e : j = k
    · subst e; exact putIno_at _ _ _
    · show ((backInos x disk n k).putIno (n + k) _).inode (n + j) = _
      rw [putIno_other _ _ (by omega)]; exact backInos_at x disk n k j (by omega)
theorem backInos_other (x disk : Img) (n : Nat) {j : Nat} : ∀ k, (j < n ∨ n + k ≤ j) → (backInos x disk n k).inode j = x.inode j
  | 0, _ => rfl
  | k + 1, h => by
    show ((backInos x disk n k).putIno (n + k) _).inode j = _
    rw [putIno_other _ _ (by omega)]; exact backInos_other x disk n k (by omega)
theorem back_inos (now disk : Img) (n : Nat) : Agree (backInos (wInos now disk n 4) disk n 4) disk := by
  have hr := wInos_rest now disk n 4
  have hb := backInos_rest (wInos now disk n 4) disk n 4
  refine .mk3 (fun j _ => ?_) (fun d s _ _ => ?_) (fun x _ => ⟨by rw [hb.2.2.2.1, hr.2.2.2.1], by rw [hb.2.2.2.2, hr.2.2.2.2]⟩)
  · by_cases h : n ≤ j ∧ j < n + 4
    · have := backInos_at (wInos now disk n 4) disk n 4 (j - n) (by omega)
      rwa [show n + (j - n) = j by omega] at this
    · rw [backInos_other _ _ _ 4 (by omega)]
      rcases wInos_cases now disk n j with ⟨x1, x2, _⟩ | ⟨_, x⟩
      · omega
      · exact x
  · unfold entry; rw [hb.1, hb.2.1, hb.2.2.1, hr.1, hr.2.1, hr.2.2.1]
/-- a directory as it was -/
def backDir (x disk : Img) (d : Nat) : Nat → Img
  | 0 => x
  | s + 1 => (backDir x disk d s).putEnt d s (disk.entry d s)
theorem backDir_rest (x disk : Img) (d : Nat) : ∀ s, (backDir x disk d s).live = x.live ∧ (backDir x disk d s).stamp = x.stamp ∧ (backDir x disk d s).links = x.links ∧ (backDir x disk d s).part = x.part ∧ (backDir x disk d s).of = x.of ∧ (backDir x disk d s).text = x.text
  | 0 => ⟨rfl, rfl, rfl, rfl, rfl, rfl⟩
  | s + 1 => backDir_rest x disk d s
theorem backDir_other (x disk : Img) (d : Nat) {d' s' : Nat} : ∀ s, (d' ≠ d ∨ s ≤ s') → (backDir x disk d s).entry d' s' = x.entry d' s'
  | 0, _ => rfl
  | s + 1, h => by
    show ((backDir x disk d s).putEnt d s _).entry d' s' = _
    rw [putEnt_other _ _ (by omega)]; exact backDir_other x disk d s (by omega)
theorem backDir_at (x disk : Img) (d : Nat) : ∀ s t, t < s → (backDir x disk d s).entry d t = disk.entry d t
  | 0, t, h => by omega
  | s + 1, t, h => by
    by_cases e : t = s
    · subst e; exact putEnt_at _ _ _ _
    · show ((backDir x disk d s).putEnt d s _).entry d t = _
      rw [putEnt_other _ _ (by omega)]; exact backDir_at x disk d s t (by omega)
theorem back_dir (now disk : Img) (d : Nat) : Agree (backDir (wDir now disk d 4) disk d 4) disk := by
  have hr := wDir_rest now disk d 4
  have hb := backDir_rest (wDir now disk d 4) disk d 4
  refine .mk3 (fun j _ => ?_) (fun d' s _ hs => ?_) (fun x _ => ⟨by rw [hb.2.2.2.2.1, hr.2.2.2.2.1], by rw [hb.2.2.2.2.2, hr.2.2.2.2.2]⟩)
  · unfold inode; rw [hb.1, hb.2.1, hb.2.2.1, hb.2.2.2.1, hr.1, hr.2.1, hr.2.2.1, hr.2.2.2.1]
  · by_cases e : d' = d
    · subst e; exact backDir_at _ _ _ 4 s hs
    · rw [backDir_other _ _ _ 4 (.inl e), wDir_entry_other _ _ _ 4 (.inl e)]
theorem back_data (now disk : Img) (x : Nat) : Agree ((disk.putData x (now.of x) (now.text x)).putData x (disk.of x) (disk.text x)) disk := by
  refine .mk3 (fun j _ => rfl) (fun d' s _ _ => rfl) (fun y _ => ?_)
  by_cases e : y = x
  · subst e; simp [putData]
  · simp [putData, e]
theorem partAs_again {now disk x : Img} {n p : Nat} (hx : x.of = disk.of) (hl : x.live n = true) (hs : x.stamp n = now.stamp n) (hp : x.part n p = partAs now disk n p) : partAs now x n p = partAs now disk n p := by
  unfold partAs at hp ⊢
  rw [hx]
  by_cases h1 : isD (now.part n p) = false
  · rw [if_pos h1, if_pos h1]
  · rw [if_neg h1] at hp ⊢
    rw [if_neg h1]
    by_cases h2 : disk.of (now.part n p).toNat = now.stamp n
    · rw [if_pos h2, if_pos h2]
    · rw [if_neg h2] at hp ⊢
      rw [if_neg h2, if_pos ⟨hl, hs⟩]
      exact hp
theorem inodeAs_again (now disk : Img) {x : Img} {n : Nat} (h1 : x.name = disk.name) (h2 : x.ino = disk.ino) (h3 : x.of = disk.of) (hi : x.inode n = inodeAs now disk n) : inodeAs now x n = inodeAs now disk n := by
  have hu := uni_of_dirs now h1 h2 (n : Int)
  obtain ⟨g1, g2, g3, g4, g5⟩ := inode_is hi
  rcases inodeAs_cases now disk n with ⟨c1, e⟩ | ⟨c1, c2, c3, e⟩ | ⟨c1, c2, e⟩
  · rw [e] at g1 g2 g3 g4 g5
    rw [e]
    unfold inodeAs
    rw [if_pos c1, hu, partAs_again h3 g1 g2 g4, partAs_again h3 g1 g2 g5]
  · rw [e] at g1 g2 g3 g4 g5
    rw [e]
    unfold inodeAs
    rw [if_neg (by rw [c1]; simp), if_pos ⟨g1, by rw [hu]; exact c3⟩, hu, g2, g4, g5]
  · rw [e] at g1
    rw [e]
    unfold inodeAs
    rw [if_neg (by rw [c1]; simp), if_neg]
    rintro ⟨a, _⟩
    rw [g1] at a; cases a
theorem again_inos (now disk : Img) (n : Nat) : Agree (wInos now (wInos now disk n 4) n 4) (wInos now disk n 4) := by
  have hr := wInos_rest now disk n 4
  have hb := wInos_rest now (wInos now disk n 4) n 4
  refine .mk3 (fun j _ => ?_) (fun d s _ _ => ?_) (fun x _ => ⟨by rw [hb.2.2.2.1], by rw [hb.2.2.2.2]⟩)
  · rcases wInos_cases now disk n j with ⟨x1, x2, x3⟩ | ⟨x1, x2⟩
    · rcases wInos_cases now (wInos now disk n 4) n j with ⟨_, _, y⟩ | ⟨y, _⟩
      · rw [y, inodeAs_again now disk hr.1 hr.2.1 hr.2.2.2.1 x3, x3]
      · omega
    · rcases wInos_cases now (wInos now disk n 4) n j with ⟨_, _, _⟩ | ⟨_, y⟩
      · omega
      · exact y
  · unfold entry; rw [hb.1, hb.2.1, hb.2.2.1]
theorem again_data (now disk : Img) (x : Nat) : Agree ((disk.putData x (now.of x) (now.text x)).putData x (now.of x) (now.text x)) (disk.putData x (now.of x) (now.text x)) := by
  refine .mk3 (fun j _ => rfl) (fun d' s _ _ => rfl) (fun y _ => ?_)
  by_cases e : y = x
  · subst e; simp [putData]
  · simp [putData, e]
theorem inode_parts_ok {m : Img} (h : m.check = 0) {n : Nat} (hn : n < 8) (hl : m.live n = true) : 1 ≤ m.stamp n ∧ (m.refs n : Int) ≤ m.links n ∧ ∀ p, p < 2 → m.checkPart (m.part n p) (m.stamp n) = 0 := by
  have h0 := (well_iff.1 h).inode n hn
  unfold checkInode at h0
  rw [if_neg (by rw [hl]; simp)] at h0
  by_cases hb : m.stamp n < 1 ∨ m.links n < m.refs n
  · rw [if_pos hb] at h0; simp at h0
  rw [if_neg hb] at h0
  exact ⟨by omega, by omega, fun p hp => firstNZ_eq_zero h0 p hp⟩
theorem checkPart_iff {m : Img} {p st : Int} : m.checkPart p st = 0 ↔ p = -1 ∨ (isD p = true ∧ m.of p.toNat = st) := by
  unfold checkPart
  by_cases h1 : p = -1
  · simp [h1]
  · rw [if_neg h1]
    cases h2 : isD p
    · simp [h1]
    · by_cases h3 : m.of p.toNat = st
      · simp [h3]
      · simp [h3, h1]
theorem inode_free_ok {m : Img} (h : m.check = 0) {n : Nat} (hn : n < 8) (hl : m.live n = false) : m.inode n = Ino.none := by
  have h0 := (well_iff.1 h).inode n hn
  unfold checkInode at h0
  rw [if_pos hl] at h0
  by_cases hf : m.free n
  · obtain ⟨f1, f2, f3, f4⟩ := hf
    unfold inode Ino.none
    rw [hl, f1, f2, f3, f4]
  · rw [if_neg hf] at h0; simp at h0
theorem partAs_exact {m : Img} (h : m.check = 0) {n p : Nat} (hn : n < 8) (hp : p < 2) (hl : m.live n = true) : partAs m m n p = m.part n p := by
  have hc := checkPart_iff.1 ((inode_parts_ok h hn hl).2.2 p hp)
  unfold partAs
  rcases hc with e | ⟨e1, e2⟩
  · rw [e]; simp [isD]
  · rw [if_neg (by rw [e1]; simp), if_pos e2]
theorem inodeAs_exact {m : Img} (h : m.exact = true) {n : Nat} (hn : n < 8) : inodeAs m m n = m.inode n := by
  have hc := exact_check h
  rcases inodeAs_cases m m n with ⟨c1, e⟩ | ⟨c1, c2, c3, e⟩ | ⟨c1, c2, e⟩
  · rw [e, uni_self, partAs_exact hc hn (by omega) c1, partAs_exact hc hn (by omega) c1, ← (exact_links h hn c1).2]
    unfold inode; rw [c1]
  · rw [c1] at c2; cases c2
  · rw [e, inode_free_ok hc hn c1]
theorem entryAs_self (m : Img) (d s : Nat) : entryAs m m d s = m.entry d s := by
  unfold entryAs
  rw [if_pos (sameEnt_of rfl)]
theorem exact_inos {m : Img} (h : m.exact = true) (n : Nat) : Agree (wInos m m n 4) m := by
  have hr := wInos_rest m m n 4
  refine .mk3 (fun j hj => ?_) (fun d s _ _ => ?_) (fun x _ => ⟨by rw [hr.2.2.2.1], by rw [hr.2.2.2.2]⟩)
  · rcases wInos_cases m m n j with ⟨x1, x2, x3⟩ | ⟨x1, x2⟩
    · rw [x3, inodeAs_exact h hj]
    · exact x2
  · unfold entry; rw [hr.1, hr.2.1, hr.2.2.1]
theorem putEnt_self (m : Img) (d s : Nat) : m.putEnt d s (m.entry d s) = m := by
  unfold putEnt entry
  congr
  · funext d' s'
    by_cases h : d' = d ∧ s' = s
    · rw [if_pos h, h.1, h.2]
    · rw [if_neg h]
  · funext d' s'
    by_cases h : d' = d ∧ s' = s
    · rw [if_pos h, h.1, h.2]
    · rw [if_neg h]
  · funext d' s'
    by_cases h : d' = d ∧ s' = s
    · rw [if_pos h, h.1, h.2]
    · rw [if_neg h]
theorem wDir_self (m : Img) (d : Nat) : ∀ s, wDir m m d s = m
  | 0 => rfl
  | s + 1 => by unfold wDir; rw [wDir_self m d s, entryAs_self, putEnt_self]
theorem exact_write {m : Img} (h : m.exact = true) (b : Int) : Agree (write m m b) m := by
  rcases blocks b with h' | ⟨k, hk, rfl⟩ | ⟨d, hd, rfl⟩ | ⟨x, hx, rfl⟩
  · rw [write_out h']; exact .refl _
  · rw [write_ino hk]; exact exact_inos h _
  · rw [write_dir hd, wDir_self]; exact .refl _
  · rw [write_data hx]
    refine .mk3 (fun j _ => rfl) (fun d' s _ _ => rfl) (fun y _ => ?_)
    by_cases e : y = x
    · subst e; simp [putData]
    · simp [putData, e]
end Img
end Go.Proofs.YtlbgkpibaahglacDoor
