/-
  Two images, and what of the one may be written to the other: layer 3 as plain functions. No Go in here.
-/
import Derived.Test.YtfpfpnhpbnnmfadGreatDoorXaa
import Derived.Laws.Strings
namespace Go.Proofs.YtfpfpnhpbnnmfadGreatDoor
structure Ino where
  live : Bool
  stamp : Int
  links : Int
  p0 : Int
  p1 : Int
structure Ent where
  name : ByteArray
  ino : Int
  est : Int
def Ino.none : Ino := ⟨false, 0, 0, -1, -1⟩
def Ent.none : Ent := ⟨⟨#[]⟩, 0, 0⟩
namespace Img
def inode (m : Img) (n : Nat) : Ino := ⟨m.live n, m.stamp n, m.links n, m.part n 0, m.part n 1⟩
def entry (m : Img) (d s : Nat) : Ent := ⟨m.name d s, m.ino d s, m.est d s⟩
def putIno (m : Img) (n : Nat) (i : Ino) : Img :=
  { m with
    live := fun k => if k = n then i.live else m.live k
    stamp := fun k => if k = n then i.stamp else m.stamp k
    links := fun k => if k = n then i.links else m.links k
    part := fun k p => if k = n then (if p = 0 then i.p0 else i.p1) else m.part k p }
def putEnt (m : Img) (d s : Nat) (e : Ent) : Img :=
  { m with
    name := fun d' s' => if d' = d ∧ s' = s then e.name else m.name d' s'
    ino := fun d' s' => if d' = d ∧ s' = s then e.ino else m.ino d' s'
    est := fun d' s' => if d' = d ∧ s' = s then e.est else m.est d' s' }
def putData (m : Img) (x : Nat) (o : Int) (t : ByteArray) : Img :=
  { m with
    of := fun k => if k = x then o else m.of k
    text := fun k => if k = x then t else m.text k }
def both (a b : Img) (ino : Int) (d s : Nat) : Bool := a.leads ino d s || b.leads ino d s
def uniTo (a b : Img) (ino : Int) : Nat → Nat
  | 0 => 0
  | d + 1 => uniTo a b ino d + cnt (both a b ino d) 4
def uni (a b : Img) (ino : Int) : Nat := uniTo a b ino 3
theorem uniTo_le (a b : Img) (ino : Int) : ∀ d, uniTo a b ino d ≤ 4 * d
  | 0 => Nat.le_refl _
  | d + 1 => by have := uniTo_le a b ino d; have := cnt_le (both a b ino d) 4; unfold uniTo; omega
theorem uni_le (a b : Img) (ino : Int) : uni a b ino ≤ 12 := uniTo_le a b ino 3
def partAs (now disk : Img) (n p : Nat) : Int :=
  if isD (now.part n p) = false then -1
  else if disk.of (now.part n p).toNat = now.stamp n then now.part n p
  else if disk.live n = true ∧ disk.stamp n = now.stamp n then disk.part n p else -1
def inodeAs (now disk : Img) (n : Nat) : Ino :=
  if now.live n = true then ⟨true, now.stamp n, uni now disk n, partAs now disk n 0, partAs now disk n 1⟩
  else if disk.live n = true ∧ uni now disk n ≠ 0 then ⟨true, disk.stamp n, uni now disk n, disk.part n 0, disk.part n 1⟩
  else Ino.none
def sameEnt (a b : Img) (d s : Nat) : Bool := (a.name d s).toList == (b.name d s).toList && a.ino d s == b.ino d s && a.est d s == b.est d s
def mayCome (disk : Img) (ino est : Int) : Bool := isI ino && (disk.live ino.toNat && disk.stamp ino.toNat == est && decide ((disk.refs ino : Int) < disk.links ino.toNat))
def mayGo (now disk : Img) (ino : Int) : Bool := decide (1 < disk.refs ino) || decide (now.refs ino = 0)
def entryAs (now disk : Img) (d s : Nat) : Ent :=
  if sameEnt now disk d s = true then disk.entry d s
  else if disk.named d s = false then (if mayCome disk (now.ino d s) (now.est d s) = true then now.entry d s else disk.entry d s)
  else if mayGo now disk (disk.ino d s) = true then Ent.none else disk.entry d s
def wInos (now disk : Img) (n : Nat) : Nat → Img
  | 0 => disk
  | k + 1 => (wInos now disk n k).putIno (n + k) (inodeAs now disk (n + k))
def wDir (now disk : Img) (d : Nat) : Nat → Img
  | 0 => disk
  | s + 1 => (wDir now disk d s).putEnt d s (entryAs now (wDir now disk d s) d s)
def inB (b : Int) : Bool := decide (0 ≤ b) && decide (b < 14)
def write (now disk : Img) (b : Int) : Img :=
  if inB b = false then disk
  else if b < 2 then wInos now disk (b.toNat * 4) 4
  else if b < 5 then wDir now disk (b.toNat - 2) 4
  else disk.putData (b.toNat - 5) (now.of (b.toNat - 5)) (now.text (b.toNat - 5))
theorem write_out {now disk : Img} {b : Int} (h : inB b = false) : write now disk b = disk := if_pos h
theorem write_ino {now disk : Img} {k : Nat} (h : k < 2) : write now disk (k : Int) = wInos now disk (k * 4) 4 := by
  have e : inB (k : Int) = true := by simp [inB]; omega
  unfold write
  rw [e, if_neg (by simp), if_pos (by omega), Int.toNat_natCast]
theorem write_dir {now disk : Img} {d : Nat} (h : d < 3) : write now disk ((d + 2 : Nat) : Int) = wDir now disk d 4 := by
  have e : inB ((d + 2 : Nat) : Int) = true := by simp [inB]; omega
  unfold write
  rw [e, if_neg (by simp), if_neg (by omega), if_pos (by omega), Int.toNat_natCast]; rfl
theorem write_data {now disk : Img} {x : Nat} (h : x < 9) : write now disk ((x + 5 : Nat) : Int) = disk.putData x (now.of x) (now.text x) := by
  have e : inB ((x + 5 : Nat) : Int) = true := by simp [inB]; omega
  unfold write
  rw [e, if_neg (by simp), if_neg (by omega), if_neg (by omega), Int.toNat_natCast]; rfl
theorem blocks (b : Int) : inB b = false ∨ (∃ k : Nat, k < 2 ∧ b = (k : Nat)) ∨ (∃ d : Nat, d < 3 ∧ b = ((d + 2 : Nat) : Int)) ∨ ∃ x : Nat, x < 9 ∧ b = ((x + 5 : Nat) : Int) := by
  by_cases h : 0 ≤ b ∧ b < 14
  · obtain ⟨k, rfl⟩ := Int.eq_ofNat_of_zero_le h.1
    right
    by_cases h2 : k < 2
    · exact .inl ⟨k, h2, rfl⟩
    · right
      by_cases h5 : k < 5
      · exact .inl ⟨k - 2, by omega, by rw [show k - 2 + 2 = k by omega]⟩
      · exact .inr ⟨k - 5, by omega, by rw [show k - 5 + 5 = k by omega]⟩
  · left; simp [inB]; omega
/-- the same in all that there is -/
structure Agree (a b : Img) : Prop where
  live : ∀ n, n < 8 → a.live n = b.live n
  stamp : ∀ n, n < 8 → a.stamp n = b.stamp n
  links : ∀ n, n < 8 → a.links n = b.links n
  part : ∀ n p, n < 8 → p < 2 → a.part n p = b.part n p
  name : ∀ d s, d < 3 → s < 4 → a.name d s = b.name d s
  ino : ∀ d s, d < 3 → s < 4 → a.ino d s = b.ino d s
  est : ∀ d s, d < 3 → s < 4 → a.est d s = b.est d s
  of : ∀ x, x < 9 → a.of x = b.of x
  text : ∀ x, x < 9 → a.text x = b.text x
/-! what putIno, putEnt, putData leave -/
theorem wInos_rest (now disk : Img) (n : Nat) : ∀ k, (wInos now disk n k).name = disk.name ∧ (wInos now disk n k).ino = disk.ino ∧ (wInos now disk n k).est = disk.est ∧ (wInos now disk n k).of = disk.of ∧ (wInos now disk n k).text = disk.text
  | 0 => ⟨rfl, rfl, rfl, rfl, rfl⟩
  | k + 1 => wInos_rest now disk n k
theorem wDir_rest (now disk : Img) (d : Nat) : ∀ s, (wDir now disk d s).live = disk.live ∧ (wDir now disk d s).stamp = disk.stamp ∧ (wDir now disk d s).links = disk.links ∧ (wDir now disk d s).part = disk.part ∧ (wDir now disk d s).of = disk.of ∧ (wDir now disk d s).text = disk.text
  | 0 => ⟨rfl, rfl, rfl, rfl, rfl, rfl⟩
  | s + 1 => wDir_rest now disk d s
theorem putIno_at (m : Img) (n : Nat) (i : Ino) : (m.putIno n i).inode n = i := by
  simp [inode, putIno]
theorem putIno_other (m : Img) {n k : Nat} (i : Ino) (h : k ≠ n) : (m.putIno n i).inode k = m.inode k := by
  simp [inode, putIno, h]
theorem putEnt_at (m : Img) (d s : Nat) (e : Ent) : (m.putEnt d s e).entry d s = e := by
  simp [entry, putEnt]
theorem putEnt_other (m : Img) {d s d' s' : Nat} (e : Ent) (h : ¬ (d' = d ∧ s' = s)) : (m.putEnt d s e).entry d' s' = m.entry d' s' := by
  simp [entry, putEnt, h]
theorem wInos_at (now disk : Img) (n : Nat) : ∀ k j, j < k → (wInos now disk n k).inode (n + j) = inodeAs now disk (n + j)
  | 0, j, h => by omega
  | k + 1, j, h => by
    by_cases e : j = k
    · subst e; exact putIno_at _ _ _
    · show ((wInos now disk n k).putIno (n + k) _).inode (n + j) = _
      rw [putIno_other _ _ (by omega)]; exact wInos_at now disk n k j (by omega)
theorem wInos_other (now disk : Img) (n : Nat) {j : Nat} : ∀ k, (j < n ∨ n + k ≤ j) → (wInos now disk n k).inode j = disk.inode j
  | 0, _ => rfl
  | k + 1, h => by
    show ((wInos now disk n k).putIno (n + k) _).inode j = _
    rw [putIno_other _ _ (by omega)]; exact wInos_other now disk n k (by omega)
/-- an inode of a written block, or another one -/
theorem wInos_cases (now disk : Img) (n j : Nat) : (n ≤ j ∧ j < n + 4 ∧ (wInos now disk n 4).inode j = inodeAs now disk j) ∨ ((j < n ∨ n + 4 ≤ j) ∧ (wInos now disk n 4).inode j = disk.inode j) := by
  by_cases h : n ≤ j ∧ j < n + 4
  · left
    have := wInos_at now disk n 4 (j - n) (by omega)
    rw [show n + (j - n) = j by omega] at this
    exact ⟨h.1, h.2, this⟩
  · right
    exact ⟨by omega, wInos_other now disk n 4 (by omega)⟩
theorem wDir_entry_other (now disk : Img) (d : Nat) {d' s' : Nat} : ∀ s, (d' ≠ d ∨ s ≤ s') → (wDir now disk d s).entry d' s' = disk.entry d' s'
  | 0, _ => rfl
  | s + 1, h => by
    show ((wDir now disk d s).putEnt d s _).entry d' s' = _
    rw [putEnt_other _ _ (by omega)]; exact wDir_entry_other now disk d s (by omega)
theorem wDir_entry_done (now disk : Img) (d : Nat) : ∀ s t, t < s → (wDir now disk d s).entry d t = entryAs now (wDir now disk d t) d t
  | 0, t, h => by omega
  | s + 1, t, h => by
    by_cases e : t = s
    · subst e; exact putEnt_at _ _ _ _
    · show ((wDir now disk d s).putEnt d s _).entry d t = _
      rw [putEnt_other _ _ (by omega)]; exact wDir_entry_done now disk d s t (by omega)
theorem named_entry {a b : Img} {d s : Nat} (h : a.entry d s = b.entry d s) : a.name d s = b.name d s ∧ a.ino d s = b.ino d s ∧ a.est d s = b.est d s := by
  unfold entry at h
  injection h with h1 h2 h3
  exact ⟨h1, h2, h3⟩
theorem inode_eq {a b : Img} {n : Nat} (h : a.inode n = b.inode n) : a.live n = b.live n ∧ a.stamp n = b.stamp n ∧ a.links n = b.links n ∧ ∀ p, p < 2 → a.part n p = b.part n p := by
  unfold inode at h
  injection h with h1 h2 h3 h4 h5
  refine ⟨h1, h2, h3, fun p hp => ?_⟩
  match p, hp with
  | 0, _ => exact h4
  | 1, _ => exact h5
theorem inode_is {a : Img} {n : Nat} {i : Ino} (h : a.inode n = i) : a.live n = i.live ∧ a.stamp n = i.stamp ∧ a.links n = i.links ∧ a.part n 0 = i.p0 ∧ a.part n 1 = i.p1 := by
  subst h; exact ⟨rfl, rfl, rfl, rfl, rfl⟩
theorem refs_of_dirs {a b : Img} (h1 : a.name = b.name) (h2 : a.ino = b.ino) (ino : Int) : a.refs ino = b.refs ino := by
  have hl : a.leads ino = b.leads ino := by funext d s; simp [leads, named, h1, h2]
  have : ∀ d, a.refsTo ino d = b.refsTo ino d := fun d => by
    induction d with
    | zero => rfl
    | succ d ih => unfold refsTo; rw [ih, hl]
  exact this 3
def b2n (b : Bool) : Nat := if b then 1 else 0
theorem cnt_put {p q : Nat → Bool} {s : Nat} (h : ∀ j, j ≠ s → p j = q j) : ∀ {n : Nat}, s < n → cnt p n + b2n (q s) = cnt q n + b2n (p s)
  | 0, hs => by omega
  | n + 1, hs => by
    unfold cnt
    by_cases e : s = n
    · subst e
      have h1 := cnt_congr (p := p) (q := q) (n := s) (fun j hj => h j (by omega))
      unfold b2n
      omega
    · have h1 := cnt_put h (n := n) (by omega)
      rw [h n (by omega)]
      omega
def Ent.leads (e : Ent) (ino : Int) : Bool := !e.name.toList.isEmpty && e.ino == ino
theorem putEnt_leads_at (m : Img) (d s : Nat) (e : Ent) (ino : Int) : (m.putEnt d s e).leads ino d s = Ent.leads e ino := by simp [leads, named, putEnt, Ent.leads]
theorem putEnt_leads_other (m : Img) {d s d' s' : Nat} (e : Ent) (ino : Int) (h : ¬ (d' = d ∧ s' = s)) : (m.putEnt d s e).leads ino d' s' = m.leads ino d' s' := by simp [leads, named, putEnt, h]
theorem putEnt_refsTo (m : Img) {d s : Nat} (e : Ent) (ino : Int) (hs : s < 4) : ∀ k, (m.putEnt d s e).refsTo ino k + (if d < k then b2n (m.leads ino d s) else 0) = m.refsTo ino k + (if d < k then b2n (Ent.leads e ino) else 0)
  | 0 => by simp [refsTo]
  | k + 1 => by
    have ih := putEnt_refsTo m (d := d) (s := s) e ino hs k
    unfold refsTo
    by_cases h : d < k
    · rw [if_pos h, if_pos h] at ih
      rw [if_pos (by omega), if_pos (by omega)]
      have : cnt ((m.putEnt d s e).leads ino k) 4 = cnt (m.leads ino k) 4 := cnt_congr fun j _ => putEnt_leads_other m e ino (by omega)
      omega
    · rw [if_neg h, if_neg h] at ih
      by_cases h2 : d = k
      · subst h2
        rw [if_pos (by omega), if_pos (by omega)]
        have := cnt_put (p := (m.putEnt d s e).leads ino d) (q := m.leads ino d) (s := s) (fun j hj => putEnt_leads_other m e ino (by omega)) (n := 4) hs
        rw [putEnt_leads_at] at this
        omega
      · rw [if_neg (by omega), if_neg (by omega)]
        have : cnt ((m.putEnt d s e).leads ino k) 4 = cnt (m.leads ino k) 4 := cnt_congr fun j _ => putEnt_leads_other m e ino (by omega)
        omega
theorem putEnt_refs (m : Img) {d s : Nat} (e : Ent) (ino : Int) (hd : d < 3) (hs : s < 4) : (m.putEnt d s e).refs ino + b2n (m.leads ino d s) = m.refs ino + b2n (Ent.leads e ino) := by
  have := putEnt_refsTo m (d := d) (s := s) e ino hs 3
  rw [if_pos hd, if_pos hd] at this
  exact this
theorem entry_leads (m : Img) (d s : Nat) (ino : Int) : Ent.leads (m.entry d s) ino = m.leads ino d s := rfl
theorem sameEnt_entry {a b : Img} {d s : Nat} (h : sameEnt a b d s = true) : (a.name d s).toList = (b.name d s).toList ∧ a.ino d s = b.ino d s ∧ a.est d s = b.est d s := by
  unfold sameEnt at h
  simp at h
  exact ⟨h.1.1, h.1.2, h.2⟩
theorem bytes_ext {a b : ByteArray} (h : a.toList = b.toList) : a = b := by
  rw [ByteArray.toList_eq, ByteArray.toList_eq] at h
  cases a; cases b; congr
  exact Array.toList_inj.1 h
theorem sameEnt_eq {a b : Img} {d s : Nat} (h : sameEnt a b d s = true) : a.entry d s = b.entry d s := by
  obtain ⟨h1, h2, h3⟩ := sameEnt_entry h
  unfold entry; rw [bytes_ext h1, h2, h3]
theorem sameEnt_of {a b : Img} {d s : Nat} (h : a.entry d s = b.entry d s) : sameEnt a b d s = true := by
  obtain ⟨h1, h2, h3⟩ := named_entry h
  unfold sameEnt; rw [h1, h2, h3]; simp
end Img
end Go.Proofs.YtfpfpnhpbnnmfadGreatDoor
namespace Go.Proofs.YtfpfpnhpbnnmfadGreatDoor
namespace Img
variable {now disk : Img}
theorem cnt_or_ge {p q r : Nat → Bool} (h : ∀ j, r j = (p j || q j)) : ∀ n, cnt p n ≤ cnt r n ∧ cnt q n ≤ cnt r n ∧ cnt r n ≤ cnt p n + cnt q n
  | 0 => ⟨Nat.le_refl _, Nat.le_refl _, Nat.le_refl _⟩
  | n + 1 => by
    obtain ⟨h1, h2, h3⟩ := cnt_or_ge h n
    unfold cnt
    rw [h n]
    cases p n <;> cases q n <;> simp <;> omega
theorem uniTo_bounds (a b : Img) (ino : Int) : ∀ d, a.refsTo ino d ≤ uniTo a b ino d ∧ b.refsTo ino d ≤ uniTo a b ino d ∧ uniTo a b ino d ≤ a.refsTo ino d + b.refsTo ino d
  | 0 => ⟨Nat.le_refl _, Nat.le_refl _, Nat.le_refl _⟩
  | d + 1 => by
    obtain ⟨h1, h2, h3⟩ := uniTo_bounds a b ino d
    obtain ⟨g1, g2, g3⟩ := cnt_or_ge (p := a.leads ino d) (q := b.leads ino d) (r := both a b ino d) (fun _ => rfl) 4
    unfold refsTo uniTo
    omega
theorem uni_bounds (a b : Img) (ino : Int) : a.refs ino ≤ uni a b ino ∧ b.refs ino ≤ uni a b ino ∧ uni a b ino ≤ a.refs ino + b.refs ino := uniTo_bounds a b ino 3
theorem uni_self (a : Img) (ino : Int) : uni a a ino = a.refs ino := by
  have hb : ∀ d, both a a ino d = a.leads ino d := fun d => by funext s; unfold both; exact Bool.or_self _
  have : ∀ d, uniTo a a ino d = a.refsTo ino d := fun d => by
    induction d with
    | zero => rfl
    | succ d ih => unfold uniTo refsTo; rw [ih, hb]
  exact this 3
theorem leads_of_dirs {a b : Img} (h1 : a.name = b.name) (h2 : a.ino = b.ino) (ino : Int) : a.leads ino = b.leads ino := by funext d s; simp [leads, named, h1, h2]
theorem uni_of_dirs {a b : Img} (now : Img) (h1 : a.name = b.name) (h2 : a.ino = b.ino) (ino : Int) : uni now a ino = uni now b ino := by
  have hb : both now a ino = both now b ino := by funext d s; unfold both; rw [leads_of_dirs h1 h2]
  have : ∀ d, uniTo now a ino d = uniTo now b ino d := fun d => by
    induction d with
    | zero => rfl
    | succ d ih => unfold uniTo; rw [ih, hb]
  exact this 3
theorem refs_pos_of_leads {m : Img} {ino : Int} {d s : Nat} (hd : d < 3) (hs : s < 4) (h : m.leads ino d s = true) : 0 < m.refs ino := by
  have h1 := clear_refs_yes (m := m) ino hd hs h
  omega
/-! counted ahead -/
theorem partAs_cases (now disk : Img) (n p : Nat) : partAs now disk n p = -1 ∨ (disk.live n = true ∧ disk.stamp n = now.stamp n ∧ partAs now disk n p = disk.part n p) ∨ (isD (now.part n p) = true ∧ disk.of (now.part n p).toNat = now.stamp n ∧ partAs now disk n p = now.part n p) := by
  unfold partAs
  by_cases h1 : isD (now.part n p) = false
  · rw [if_pos h1]; exact .inl rfl
  · rw [if_neg h1]
    have h1' : isD (now.part n p) = true := by simpa using h1
    by_cases h2 : disk.of (now.part n p).toNat = now.stamp n
    · rw [if_pos h2]; exact .inr (.inr ⟨h1', h2, rfl⟩)
    · rw [if_neg h2]
      by_cases h3 : disk.live n = true ∧ disk.stamp n = now.stamp n
      · rw [if_pos h3]; exact .inr (.inl ⟨h3.1, h3.2, rfl⟩)
      · rw [if_neg h3]; exact .inl rfl
theorem inodeAs_cases (now disk : Img) (n : Nat) :
    (now.live n = true ∧ inodeAs now disk n = ⟨true, now.stamp n, uni now disk n, partAs now disk n 0, partAs now disk n 1⟩) ∨
    (now.live n = false ∧ disk.live n = true ∧ uni now disk n ≠ 0 ∧ inodeAs now disk n = ⟨true, disk.stamp n, uni now disk n, disk.part n 0, disk.part n 1⟩) ∨
    (now.live n = false ∧ (disk.live n = false ∨ uni now disk n = 0) ∧ inodeAs now disk n = Ino.none) := by
  unfold inodeAs
  by_cases h1 : now.live n = true
  · rw [if_pos h1]; exact .inl ⟨h1, rfl⟩
  · rw [if_neg h1]
    have h1' : now.live n = false := by simpa using h1
    by_cases h2 : disk.live n = true ∧ uni now disk n ≠ 0
    · rw [if_pos h2]; exact .inr (.inl ⟨h1', h2.1, h2.2, rfl⟩)
    · rw [if_neg h2]
      refine .inr (.inr ⟨h1', ?_, rfl⟩)
      cases hl : disk.live n
      · exact .inl rfl
      · right
        by_cases e : uni now disk n = 0
        · exact e
        · exact absurd ⟨hl, e⟩ h2
/-! the last name stays -/
theorem entryAs_cases (now m : Img) (d s : Nat) :
    (entryAs now m d s = m.entry d s) ∨
    (m.named d s = false ∧ mayCome m (now.ino d s) (now.est d s) = true ∧ entryAs now m d s = now.entry d s) ∨
    (m.named d s = true ∧ mayGo now m (m.ino d s) = true ∧ entryAs now m d s = Ent.none) := by
  unfold entryAs
  by_cases h1 : sameEnt now m d s = true
  · rw [if_pos h1]; exact .inl rfl
  · rw [if_neg h1]
    by_cases h2 : m.named d s = false
    · rw [if_pos h2]
      by_cases h3 : mayCome m (now.ino d s) (now.est d s) = true
      · rw [if_pos h3]; exact .inr (.inl ⟨h2, h3, rfl⟩)
      · rw [if_neg h3]; exact .inl rfl
    · rw [if_neg h2]
      by_cases h3 : mayGo now m (m.ino d s) = true
      · rw [if_pos h3]; exact .inr (.inr ⟨by simpa using h2, h3, rfl⟩)
      · rw [if_neg h3]; exact .inl rfl
theorem mayCome_iff {m : Img} {ino est : Int} (h : mayCome m ino est = true) : 0 ≤ ino ∧ ino < 8 ∧ m.live ino.toNat = true ∧ m.stamp ino.toNat = est ∧ (m.refs ino : Int) < m.links ino.toNat := by
  unfold mayCome isI at h
  simp at h
  exact ⟨h.1.1, h.1.2, h.2.1.1, h.2.1.2, h.2.2⟩
theorem none_leads (ino : Int) : Ent.leads Ent.none ino = false := by
  unfold Ent.leads Ent.none
  rw [show (⟨#[]⟩ : ByteArray).toList = [] from empty_list]; rfl
end Img
end Go.Proofs.YtfpfpnhpbnnmfadGreatDoor
namespace Go.Proofs.YtfpfpnhpbnnmfadGreatDoor
namespace Img
variable {now disk : Img}
theorem Agree.mk3 {a b : Img} (h1 : ∀ n, n < 8 → a.inode n = b.inode n) (h2 : ∀ d s, d < 3 → s < 4 → a.entry d s = b.entry d s) (h3 : ∀ x, x < 9 → a.of x = b.of x ∧ a.text x = b.text x) : Agree a b :=
  ⟨fun n h => (inode_eq (h1 n h)).1, fun n h => (inode_eq (h1 n h)).2.1, fun n h => (inode_eq (h1 n h)).2.2.1, fun n p h hp => (inode_eq (h1 n h)).2.2.2 p hp,
   fun d s h h' => (named_entry (h2 d s h h')).1, fun d s h h' => (named_entry (h2 d s h h')).2.1, fun d s h h' => (named_entry (h2 d s h h')).2.2, fun x h => (h3 x h).1, fun x h => (h3 x h).2⟩
theorem inode_parts_ok {m : Img} (h : m.check = 0) {n : Nat} (hn : n < 8) (hl : m.live n = true) : 1 ≤ m.stamp n ∧ (m.refs n : Int) ≤ m.links n ∧ ∀ p, p < 2 → m.checkPart (m.part n p) (m.stamp n) = 0 := by
  have h0 := (well_iff.1 h).inode n hn
  unfold checkInode at h0
  rw [if_neg (by rw [hl]; simp)] at h0
  by_cases hb : m.stamp n < 1 ∨ m.links n < m.refs n
  · rw [if_pos hb] at h0; simp at h0
  rw [if_neg hb] at h0
  exact ⟨by omega, by omega, fun p hp => firstNZ_eq_zero h0 p hp⟩
theorem checkPart_iff {m : Img} {p st : Int} : m.checkPart p st = 0 ↔ p = -1 ∨ (isD p = true ∧ m.of p.toNat = st) := by
  unfold checkPart
  by_cases h1 : p = -1
  · simp [h1]
  · rw [if_neg h1]
    cases h2 : isD p
    · simp [h1]
    · by_cases h3 : m.of p.toNat = st
      · simp [h3]
      · simp [h3, h1]
theorem inode_free_ok {m : Img} (h : m.check = 0) {n : Nat} (hn : n < 8) (hl : m.live n = false) : m.inode n = Ino.none := by
  have h0 := (well_iff.1 h).inode n hn
  unfold checkInode at h0
  rw [if_pos hl] at h0
  by_cases hf : m.free n
  · obtain ⟨f1, f2, f3, f4⟩ := hf
    unfold inode Ino.none
    rw [hl, f1, f2, f3, f4]
  · rw [if_neg hf] at h0; simp at h0
theorem putEnt_self (m : Img) (d s : Nat) : m.putEnt d s (m.entry d s) = m := by
  unfold putEnt entry
  congr
  · funext d' s'
    by_cases h : d' = d ∧ s' = s
    · rw [if_pos h, h.1, h.2]
    · rw [if_neg h]
  · funext d' s'
    by_cases h : d' = d ∧ s' = s
    · rw [if_pos h, h.1, h.2]
    · rw [if_neg h]
  · funext d' s'
    by_cases h : d' = d ∧ s' = s
    · rw [if_pos h, h.1, h.2]
    · rw [if_neg h]
end Img
end Go.Proofs.YtfpfpnhpbnnmfadGreatDoor
