/-
  Files through crashes: what holds of what is to be and of the disk behind each step. No Go in here.
-/
import Derived.Test.YtfpfpnhpbnnmfadGreatDoorXbc
import Derived.Test.YtfpfpnhpbnnmfadGreatDoorXbf
namespace Go.Proofs.YtfpfpnhpbnnmfadGreatDoor
namespace Img
open Idl (Stp chk)
variable {now disk : Img} {last : Int}
/-- what holds behind each step -/
structure Hold (now disk : Img) (last : Int) : Prop where
  good : Good now last
  ok : disk.check = 0
  fit : Fit now disk
  old : ∀ n, n < 8 → disk.live n = true → disk.stamp n ≤ last
theorem fit_self {m : Img} (h : m.check = 0) : Fit m m := by
  have w := well_iff.1 h
  refine ⟨fun n _ _ _ h => absurd rfl h, fun n k hn hk hne l1 l2 => stamps_ne w.stamps hk hn hne l2 l1, fun n p k q hn hp hk hq l1 h0 l2 e => ?_, fun _ _ _ _ _ _ _ _ => rfl, fun _ _ _ _ _ _ => sameEnt_of rfl, fun d s t hd hs ht hne hnm => names_apart h hd hs ht hne hnm⟩
  by_cases c : n = k ∧ p = q
  · obtain ⟨rfl, rfl⟩ := c; exact ⟨rfl, rfl, rfl⟩
  · have hD : isD (m.part n p) = true := by
      rcases checkPart_iff.1 ((inode_parts_ok h hn l1).2.2 p hp) with z | z
      · omega
      · exact z.1
    exact absurd e (part_ne h hn hp hk hq c l1 l2 hD)
/-- what lies there behind a Write -/
structure Wr (now disk E : Img) : Prop where
  ok : E.check = 0
  ino : ∀ k, k < 8 → E.live k = true → (now.live k = true ∧ E.stamp k = now.stamp k ∧ ∀ p, p < 2 → E.part k p = partAs now disk k p) ∨ (disk.live k = true ∧ E.stamp k = disk.stamp k ∧ ∀ p, p < 2 → E.part k p = disk.part k p)
  ent : ∀ d s, d < 3 → s < 4 → E.entry d s = disk.entry d s ∨ E.entry d s = now.entry d s ∨ E.entry d s = Ent.none
  dat : ∀ x, x < 9 → (E.of x = disk.of x ∧ E.text x = disk.text x) ∨ (E.of x = now.of x ∧ E.text x = now.text x)
theorem wr_of (hn : now.check = 0) (hd : disk.check = 0) (hf : Fit now disk) (b : Int) : Wr now disk (write now disk b) := by
  have hok := mends hn hd hf b
  rcases blocks b with h | ⟨k, hk, rfl⟩ | ⟨d, hd3, rfl⟩ | ⟨x, hx, rfl⟩
  · rw [write_out h] at hok ⊢
    exact ⟨hok, fun k _ hl => .inr ⟨hl, rfl, fun _ _ => rfl⟩, fun _ _ _ _ => .inl rfl, fun _ _ => .inl ⟨rfl, rfl⟩⟩
  · rw [write_ino hk] at hok ⊢
    have hr := wInos_rest now disk (k * 4) 4
    refine ⟨hok, fun j hj hl => ?_, fun d s _ _ => .inl (by unfold entry; rw [hr.1, hr.2.1, hr.2.2.1]), fun x _ => .inl (by rw [hr.2.2.2.1, hr.2.2.2.2]; exact ⟨rfl, rfl⟩)⟩
    rcases wInos_cases now disk (k * 4) j with ⟨x1, x2, x3⟩ | ⟨x1, x2⟩
    · obtain ⟨g1, g2, g3, g4, g5⟩ := inode_is x3
      rcases inodeAs_cases now disk j with ⟨c1, e⟩ | ⟨c1, c2, c3, e⟩ | ⟨c1, c2, e⟩ <;> rw [e] at g1 g2 g4 g5
      · refine .inl ⟨c1, g2, fun p hp => ?_⟩
        match p, hp with
        | 0, _ => exact g4
        | 1, _ => exact g5
      · refine .inr ⟨c2, g2, fun p hp => ?_⟩
        match p, hp with
        | 0, _ => exact g4
        | 1, _ => exact g5
      · rw [g1] at hl; cases hl
    · obtain ⟨g1, g2, g3, g4⟩ := inode_eq x2
      exact .inr ⟨by rw [← g1]; exact hl, g2, g4⟩
  · rw [write_dir hd3] at hok ⊢
    have hM := (Mix.refl now disk).wDir hd3 4 (by omega)
    have hr := wDir_rest now disk d 4
    refine ⟨hok, fun j _ hl => .inr ⟨by rw [← hr.1]; exact hl, by rw [hr.2.1], fun p _ => by rw [hr.2.2.2.1]⟩, hM.ent, fun x _ => .inl (by rw [hM.dat.1, hM.dat.2]; exact ⟨rfl, rfl⟩)⟩
  · rw [write_data hx] at hok ⊢
    refine ⟨hok, fun k _ hl => .inr ⟨hl, rfl, fun _ _ => rfl⟩, fun _ _ _ _ => .inl rfl, fun y _ => ?_⟩
    by_cases e : y = x
    · subst e; exact .inr ⟨if_pos rfl, if_pos rfl⟩
    · exact .inl ⟨if_neg e, if_neg e⟩
theorem lead_slot {m : Img} {d s n : Nat} (h : m.leads (n : Int) d s = true) : m.named d s = true ∧ m.ino d s = (n : Int) := by
  unfold leads at h; simp at h; exact h
theorem Wr.fit {E : Img} (hn : now.check = 0) (hf : Fit now disk) (h : Wr now disk E) : Fit now E := by
  refine ⟨fun n h8 l1 l2 hne => ?_, fun n k h8 hk hne l1 l2 => ?_, fun n p k q h8 hp hk hq l1 h0 l2 e => ?_, fun x n p hx h8 hp l e => ?_, fun d s hd hs h1 h2 => ?_, fun d s t hd hs ht hne hnm => ?_⟩
  · rcases h.ino n h8 l2 with ⟨_, b, _⟩ | ⟨a, b, _⟩
    · exact absurd b.symm hne
    · have h0 := hf.other n h8 l1 a (by rw [← b]; exact hne)
      refine refs_zero_iff.2 fun d s hd hs => ?_
      cases hl : E.leads (n : Int) d s
      · rfl
      · exfalso
        obtain ⟨h3, h4⟩ := lead_slot hl
        rcases h.ent d s hd hs with e | e | e
        · rw [leads_of_entry e, refs_zero_iff.1 h0 d s hd hs] at hl; cases hl
        · have s1 := (slot_lead h.ok hd hs hl).2.2
          rw [leads_of_entry e] at hl
          have s2 := (slot_lead hn hd hs hl).2.2
          rw [(named_entry e).2.2, ← s2] at s1
          exact hne s1.symm
        · rw [none_unnamed e] at h3; cases h3
  · rcases h.ino k hk l2 with ⟨a, b, _⟩ | ⟨a, b, _⟩ <;> rw [b]
    · exact stamps_ne (well_iff.1 hn).stamps hk h8 hne a l1
    · exact hf.stamp n k h8 hk hne l1 a
  · rcases h.ino k hk l2 with ⟨a, b, c⟩ | ⟨a, b, c⟩
    · rw [c q hq] at e
      rcases partAs_cases now disk k q with y | ⟨y1, y2, y3⟩ | ⟨y1, y2, y3⟩
      · omega
      · rw [y3] at e
        have := hf.data n p k q h8 hp hk hq l1 h0 y1 e
        exact ⟨this.1, this.2.1, by rw [b, this.1]⟩
      · rw [y3] at e
        by_cases z : k = n ∧ q = p
        · exact ⟨z.1, z.2, by rw [b, z.1]⟩
        · exact absurd e.symm (part_ne hn hk hq h8 hp z a l1 y1)
    · rw [c q hq] at e
      have := hf.data n p k q h8 hp hk hq l1 h0 a e
      exact ⟨this.1, this.2.1, by rw [b]; exact this.2.2⟩
  · rcases h.dat x hx with z | z
    · rw [z.1]
      rcases h.ino n h8 l with ⟨a, b, c⟩ | ⟨a, b, c⟩
      · rw [c p hp] at e
        rcases partAs_cases now disk n p with y | ⟨y1, y2, y3⟩ | ⟨y1, y2, y3⟩
        · omega
        · rw [y3] at e; exact hf.held x n p hx h8 hp y1 e
        · rw [y3] at e
          rw [e, Int.toNat_natCast] at y2
          rcases checkPart_iff.1 ((inode_parts_ok hn h8 a).2.2 p hp) with w | w
          · omega
          · rw [e, Int.toNat_natCast] at w; rw [w.2, y2]
      · rw [c p hp] at e; exact hf.held x n p hx h8 hp a e
    · exact z.1.symm
  · rcases h.ent d s hd hs with e | e | e
    · have := sameEnt_eq (hf.slot d s hd hs h1 (by rw [← named_of_entry e]; exact h2))
      exact sameEnt_of (this.trans e.symm)
    · exact sameEnt_of e.symm
    · rw [none_unnamed e] at h2; cases h2
  · rcases h.ent d t hd ht with e | e | e
    · rw [(named_entry e).1]; exact hf.name d s t hd hs ht hne hnm
    · rw [(named_entry e).1]; exact names_apart hn hd hs ht hne hnm
    · have : E.name d t = ⟨#[]⟩ := by unfold entry Ent.none at e; injection e
      rw [this, empty_list]
      intro z
      unfold named at hnm
      rw [← z] at hnm; simp at hnm
theorem Hold.write (h : Hold now disk last) (b : Int) : Hold now (Img.write now disk b) last := by
  have hw := wr_of h.good.ex.ok h.ok h.fit b
  refine ⟨h.good, hw.ok, hw.fit h.good.ex.ok h.fit, fun n hn hl => ?_⟩
  rcases hw.ino n hn hl with ⟨a, e, _⟩ | ⟨a, e, _⟩ <;> rw [e]
  · exact h.good.last n hn a
  · exact h.old n hn a
theorem Hold.down : ∀ b {D : Img}, Hold now D last → Hold now (Img.down now D b) last
  | 0, _, h => h
  | b + 1, _, h => by unfold Img.down; exact Hold.down b (h.write _)
theorem Hold.syn : ∀ f {D : Img}, Hold now D last → Hold now (Img.syn now f D).2 last
  | 0, _, h => h
  | f + 1, D, h => by
    cases e : sameImg now D
    · rw [syn_step e]; exact Hold.syn f (h.down 14)
    · rw [syn_stop e]; exact h
theorem Hold.lies (h : Hold now disk last) : Lies now disk :=
  ⟨fun d s hd hs h1 h2 => sameEnt_eq (h.fit.slot d s hd hs h1 h2), fun _ _ hd hs hu => empty_unnamed h.ok hd hs hu⟩
/-- what is to be, behind a step, is as it was, or leads to what the disk does not -/
theorem Fit.sub {now' : Img} (hf : Fit now disk)
    (hi : ∀ n, n < 8 → now'.live n = true → (now.live n = true ∧ now'.stamp n = now.stamp n ∧ ∀ p, p < 2 → now'.part n p = now.part n p ∨ now'.part n p < 0 ∨ ∀ k q, k < 8 → q < 2 → disk.live k = true → disk.part k q ≠ now'.part n p) ∨ (disk.refs n = 0 ∧ (∀ k, k < 8 → disk.live k = true → disk.stamp k ≠ now'.stamp n) ∧ ∀ p, p < 2 → now'.part n p < 0))
    (ho : ∀ x n p, x < 9 → n < 8 → p < 2 → disk.live n = true → disk.part n p = (x : Nat) → now'.of x = now.of x)
    (he : ∀ d s, d < 3 → s < 4 → now'.named d s = true → now'.entry d s = now.entry d s ∨ (disk.named d s = false ∧ ∀ t, t < 4 → (disk.name d t).toList ≠ (now'.name d s).toList)) : Fit now' disk := by
  refine ⟨fun n h8 l1 l2 hne => ?_, fun n k h8 hk hne l1 l2 => ?_, fun n p k q h8 hp hk hq l1 h0 l2 e => ?_, fun x n p hx h8 hp l e => ?_, fun d s hd hs h1 h2 => ?_, fun d s t hd hs ht hne hnm => ?_⟩
  · rcases hi n h8 l1 with ⟨a, b, _⟩ | ⟨a, _, _⟩
    · exact hf.other n h8 a l2 (by rw [← b]; exact hne)
    · exact a
  · rcases hi n h8 l1 with ⟨a, b, _⟩ | ⟨_, b, _⟩
    · rw [b]; exact hf.stamp n k h8 hk hne a l2
    · exact b k hk l2
  · rcases hi n h8 l1 with ⟨a, b, c⟩ | ⟨_, _, c⟩
    · rcases c p hp with z | z | z
      · rw [z] at e h0; rw [b]; exact hf.data n p k q h8 hp hk hq a h0 l2 e
      · omega
      · exact absurd e (z k q hk hq l2)
    · have := c p hp; omega
  · rw [ho x n p hx h8 hp l e]; exact hf.held x n p hx h8 hp l e
  · rcases he d s hd hs h1 with z | ⟨z, _⟩
    · have := sameEnt_eq (hf.slot d s hd hs (by rw [← named_of_entry z]; exact h1) h2)
      exact sameEnt_of (z.trans this)
    · rw [z] at h2; cases h2
  · rcases he d s hd hs hnm with z | ⟨_, z⟩
    · rw [(named_entry z).1]; exact hf.name d s t hd hs ht hne (by rw [← named_of_entry z]; exact hnm)
    · exact z t ht
theorem added_part (d : Int) (s : ByteArray) (n j p : Nat) (hp : p < 2) : (added now disk d s n).part j p = now.part j p := by
  show (if j = n then (if p = 0 then now.part n 0 else now.part n 1) else now.part j p) = _
  by_cases e : j = n
  · rw [if_pos e, e]
    match p, hp with
    | 0, _ => rfl
    | 1, _ => rfl
  · rw [if_neg e]
theorem dropped_part {d : Int} {s : ByteArray} {j : Nat} (h : (dropped now d s).live j = true) {p : Nat} (hp : p < 2) : (dropped now d s).part j p = now.part j p := by
  have h1 : (dropped1 now d s).part j p = now.part j p := by
    unfold dropped1
    rw [putIno_part]
    by_cases e : j = (inoOf now d s).toNat
    · rw [if_pos e, e]
      match p, hp with
      | 0, _ => rfl
      | 1, _ => rfl
    · rw [if_neg e]; rfl
  unfold dropped at h ⊢
  split at h
  · rename_i z
    rw [if_pos z]
    rw [putIno_live] at h
    by_cases e : j = (inoOf now d s).toNat
    · rw [if_pos e] at h; cases h
    · rw [putIno_part, if_neg e]; exact h1
  · rename_i z
    rw [if_neg z]; exact h1
theorem dropped_data (d : Int) (s : ByteArray) : (dropped now d s).of = now.of ∧ (dropped now d s).text = now.text := by
  unfold dropped
  split
  · exact ⟨rfl, rfl⟩
  · exact ⟨rfl, rfl⟩
theorem setPart_part (n p : Nat) (v : Int) (hp : p < 2) (j q : Nat) (hq : q < 2) : (now.setPart n p v).part j q = if j = n ∧ q = p then v else now.part j q := by
  show (if j = n then (if q = 0 then (if p = 0 then v else now.part n 0) else (if p = 1 then v else now.part n 1)) else now.part j q) = _
  by_cases e : j = n
  · subst e
    match p, hp, q, hq with
    | 0, _, 0, _ => simp
    | 0, _, 1, _ => simp
    | 1, _, 0, _ => simp
    | 1, _, 1, _ => simp
  · simp [e]
theorem disk_name {d : Int} {s : ByteArray} (h : disk.findAt d s.toList < 0) (hd : 0 ≤ d ∧ d < 3) (hs : isNmB s.toList = true) : ∀ t, t < 4 → (disk.name d.toNat t).toList ≠ s.toList := findAt_none h hd (nm_ne hs)
theorem fit_added (hf : Fit now disk) {d : Int} {s : ByteArray} {n k : Nat} (hS : SlotAt now disk d k) (h : ∀ t, t < 4 → (disk.name d.toNat t).toList ≠ s.toList) : Fit (added now disk d s n) disk := by
  refine hf.sub (fun j _ hl => .inl ⟨by rw [added_live] at hl; exact hl, added_stamp _ _ _ _, fun p hp => .inl (added_part d s n j p hp)⟩) (fun _ _ _ _ _ _ _ _ => rfl) (fun e t _ _ _ => ?_)
  by_cases c : e = d.toNat ∧ t = k
  · right
    rw [c.1, c.2, (named_entry (show (added now disk d s n).entry d.toNat k = ({ name := fun _ _ => s, ino := fun _ _ => (n : Int), est := fun _ _ => now.stamp n, live := now.live, stamp := now.stamp, links := now.links, part := now.part, of := now.of, text := now.text } : Img).entry d.toNat k from added_at d s n hS)).1]
    exact ⟨hS.disk, h⟩
  · exact .inl (added_other d s n hS c)
theorem fit_dropped (hf : Fit now disk) (d : Int) (s : ByteArray) : Fit (dropped now d s) disk :=
  hf.sub (fun j _ hl => .inl ⟨(dropped_live hl).1, (dropped_live hl).2, fun _ hp => .inl (dropped_part hl hp)⟩) (fun x _ _ _ _ _ _ _ => by rw [(dropped_data d s).1]) (fun e t _ _ hnm => (dropped_other d s e t).elim .inl (fun z => by rw [z] at hnm; cases hnm))
theorem fit_set (hf : Fit now disk) {n p : Nat} (hp : p < 2) {v : Int} (hv : v < 0 ∨ ∀ k q, k < 8 → q < 2 → disk.live k = true → disk.part k q ≠ v) : Fit (now.setPart n p v) disk := by
  refine hf.sub (fun j _ hl => .inl ⟨by rw [(setPart_same n p v j).1] at hl; exact hl, (setPart_same n p v j).2, fun q hq => ?_⟩) (fun _ _ _ _ _ _ _ _ => rfl) (fun _ _ _ _ _ => .inl rfl)
  rw [setPart_part n p v hp j q hq]
  by_cases c : j = n ∧ q = p
  · rw [if_pos c]; exact .inr hv
  · rw [if_neg c]; exact .inl rfl
theorem fit_putData (hf : Fit now disk) {x : Nat} {o : Int} (t : ByteArray) (h : ∀ n p, n < 8 → p < 2 → disk.live n = true → disk.part n p = (x : Nat) → o = now.of x) : Fit (now.putData x o t) disk := by
  refine hf.sub (fun j _ hl => .inl ⟨hl, rfl, fun _ _ => .inl rfl⟩) (fun y n p hy hn hp hl e => ?_) (fun _ _ _ _ _ => .inl rfl)
  show (if y = x then o else now.of y) = _
  by_cases c : y = x
  · subst c; rw [if_pos rfl]; exact h n p hn hp hl e
  · rw [if_neg c]
theorem fit_put (hn : now.check = 0) (hf : Fit now disk) {n p : Nat} (h8 : n < 8) (hp : p < 2) (hl : now.live n = true) (t : ByteArray) (hfree : now.part n p < 0 → ¬ freeData now disk < 0) : Fit (putPart now disk n p t) disk := by
  unfold putPart
  by_cases c : now.part n p < 0
  · simp only [if_pos c]
    obtain ⟨x, hx, ex, h1, h2⟩ := dataAt (hfree c)
    have hno : ∀ k q, k < 8 → q < 2 → disk.live k = true → disk.part k q ≠ (x : Int) := fun k q hk hq hlk => holds_not hx h2 hk hq hlk
    rw [ex]
    have hf' := fit_set (n := n) hf hp (v := (x : Int)) (.inr hno)
    have e1 : (now.setPart n p (x : Int)).part n p = (x : Int) := setPart_at hp _
    rw [e1, Int.toNat_natCast]
    exact fit_putData hf' t (fun k q hk hq hlk e => absurd e (hno k q hk hq hlk))
  · simp only [if_neg c]
    rcases checkPart_iff.1 ((inode_parts_ok hn h8 hl).2.2 p hp) with w | w
    · omega
    · exact fit_putData hf t (fun _ _ _ _ _ _ => w.2.symm)
theorem Hold.step (h : Hold now disk last) (x : Stp) : Hold (sstep now disk last x) disk (slast now disk last x) := by
  have hla : last ≤ slast now disk last x := by unfold slast; split <;> omega
  refine ⟨good_step h.good x, h.ok, ?_, fun n hn hl => by have := h.old n hn hl; omega⟩
  by_cases h0 : scode now disk x = 0
  · have t := take h0
    have hm := h.good.ex.ok
    rcases sstep_cases (last := last) h0 with ⟨k, e⟩ | ⟨k, e⟩ | ⟨k, e⟩ | ⟨k, e⟩ | ⟨k, e⟩ | ⟨k, e⟩ <;> rw [e]
    · obtain ⟨n, s, hc⟩ := comes h.good h0 k
      have hf1 : Fit (started now disk last) disk := by
        unfold started
        rw [hc.ino, Int.toNat_natCast]
        refine h.fit.sub (fun j hj hl => ?_) (fun _ _ _ _ _ _ _ _ => rfl) (fun _ _ _ _ _ => .inl rfl)
        rw [putIno_stamp]
        by_cases c : j = n
        · subst c
          rw [if_pos rfl]
          refine .inr ⟨hc.refs, fun i hi hli => by have := h.old i hi hli; show disk.stamp i ≠ last + 1; omega, fun p hp => ?_⟩
          rw [putIno_part, if_pos rfl]
          match p, hp with
          | 0, _ => show (-1 : Int) < 0; omega
          | 1, _ => show (-1 : Int) < 0; omega
        · rw [putIno_live, if_neg c] at hl
          rw [if_neg c]
          exact .inl ⟨hl, rfl, fun p _ => .inl (by rw [putIno_part, if_neg c])⟩
      exact fit_added hf1 hc.slot' (disk_name (t.slot k).2 t.dir t.name)
    · obtain ⟨k', n, s, hT, hS, hx⟩ := linked h.good h0 (.inl k)
      exact fit_added h.fit hS (disk_name (t.slot2 (.inl k)).2 (t.to (.inl k)).1 (t.to (.inl k)).2)
    · exact fit_dropped h.fit _ _
    · obtain ⟨k', n, s, hT, hS, hx⟩ := linked h.good h0 (.inr k)
      exact fit_dropped (fit_added h.fit hS (disk_name (t.slot2 (.inr k)).2 (t.to (.inr k)).1 (t.to (.inr k)).2)) _ _
    · obtain ⟨k', n, hT⟩ := there hm (t.old (by omega))
      have hp := t.part (.inl k)
      have hf := t.data k
      rw [hT.of, Int.toNat_natCast] at hf ⊢
      exact fit_put hm h.fit hT.n8 (by omega) hT.live x.text hf
    · have hp := t.part (.inr k)
      exact fit_set h.fit (by omega) (.inl (by omega))
  · rw [sstep_code h0]; exact h.fit
/-! a crash -/
def topTo (m : Img) : Nat → Int
  | 0 => 0
  | n + 1 => if m.stamp n > topTo m n then m.stamp n else topTo m n
def top (m : Img) : Int := topTo m 8
theorem topTo_is (m : Img) : ∀ n, 0 ≤ topTo m n ∧ (∀ k, k < n → m.stamp k ≤ topTo m n) ∧ (topTo m n = 0 ∨ ∃ k, k < n ∧ topTo m n = m.stamp k)
  | 0 => ⟨Int.le_refl _, fun k hk => by omega, .inl rfl⟩
  | n + 1 => by
    obtain ⟨h1, h2, h3⟩ := topTo_is m n
    unfold topTo
    by_cases c : m.stamp n > topTo m n
    · rw [if_pos c]
      refine ⟨by omega, fun k hk => ?_, .inr ⟨n, by omega, rfl⟩⟩
      by_cases e : k = n
      · rw [e]; exact Int.le_refl _
      · have := h2 k (by omega); omega
    · rw [if_neg c]
      refine ⟨h1, fun k hk => ?_, ?_⟩
      · by_cases e : k = n
        · rw [e]; omega
        · exact h2 k (by omega)
      · rcases h3 with z | ⟨k, hk, z⟩
        · exact .inl z
        · exact .inr ⟨k, by omega, z⟩
theorem stamp_nonneg {m : Img} (h : m.check = 0) {n : Nat} (hn : n < 8) : 0 ≤ m.stamp n := by
  cases hl : m.live n
  · have e := (inode_is (inode_free_ok h hn hl)).2.1
    rw [e]; exact Int.le_refl _
  · have := (inode_parts_ok h hn hl).1; omega
theorem top_is {m : Img} (h : m.check = 0) {b : Nat} (hb : b < 8) (hm : ∀ k, k < 8 → m.stamp k ≤ m.stamp b) : m.stamp b = top m := by
  obtain ⟨h1, h2, h3⟩ := topTo_is m 8
  have h4 := h2 b hb
  have h5 := stamp_nonneg h hb
  unfold top
  rcases h3 with z | ⟨k, hk, z⟩
  · omega
  · have := hm k hk; omega
theorem hold_self {m : Img} (h : Ex m) : Hold m m (top m) := by
  obtain ⟨h1, h2, h3⟩ := topTo_is m 8
  exact ⟨⟨h, h1, fun n hn _ => h2 n hn⟩, h.ok, fit_self h.ok, fun n hn _ => h2 n hn⟩
theorem Hold.crash (h : Hold now disk last) : Hold (mend disk) (mend disk) (top (mend disk)) := hold_self (mend_ex h.ok)
/-! all steps -/
def lnow (m k : Img) (last : Int) (x : Stp) : Img := if x.kind = 9 then mend k else if x.kind = 7 ∨ x.kind = 8 then m else sstep m k last x
def ldisk (m k : Img) (x : Stp) : Img := if x.kind = 9 then mend k else if x.kind = 7 then write m k x.p else if x.kind = 8 then (syn m 8 k).2 else k
def llast (m k : Img) (last : Int) (x : Stp) : Int := if x.kind = 9 then top (mend k) else if x.kind = 7 ∨ x.kind = 8 then last else slast m k last x
def lcode (m k : Img) (x : Stp) : Int := if x.kind = 9 then 0 else if x.kind = 7 then (if inB x.p = true then 0 else 1) else if x.kind = 8 then 0 else scode m k x
theorem Hold.any (h : Hold now disk last) (x : Stp) : Hold (lnow now disk last x) (ldisk now disk x) (llast now disk last x) := by
  unfold lnow ldisk llast
  by_cases k9 : x.kind = 9
  · simp only [if_pos k9]; exact h.crash
  · simp only [if_neg k9]
    by_cases k7 : x.kind = 7
    · rw [if_pos (.inl k7), if_pos k7, if_pos (.inl k7)]; exact h.write _
    · by_cases k8 : x.kind = 8
      · rw [if_pos (.inr k8), if_neg k7, if_pos k8, if_pos (.inr k8)]; exact h.syn 8
      · rw [if_neg (by omega), if_neg k7, if_neg k8, if_neg (by omega)]; exact h.step x
theorem top_le (h : Hold now disk last) : top (mend disk) ≤ last := by
  obtain ⟨h1, h2, h3⟩ := topTo_is (mend disk) 8
  have hl := h.good.lo
  unfold top
  rcases h3 with z | ⟨k, hk, z⟩
  · omega
  · rw [z]
    cases hl2 : (mend disk).live k
    · rw [(inode_is (inode_free_ok (mend_check h.ok) hk hl2)).2.1]; exact hl
    · rw [mend_live hk] at hl2
      simp at hl2
      rw [(left hk hl2.2).stamp]; exact h.old k hk hl2.1
theorem llast_le (h : Hold now disk last) (x : Stp) : llast now disk last x ≤ last + 1 := by
  unfold llast
  split
  · have := top_le h; omega
  · split
    · omega
    · exact slast_le x
end Img
end Go.Proofs.YtfpfpnhpbnnmfadGreatDoor
