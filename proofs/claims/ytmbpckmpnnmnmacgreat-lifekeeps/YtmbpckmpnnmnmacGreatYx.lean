/-
  Files through crashes: what holds of what is to be and of the disk behind each step. No Go in here.
-/
import Derived.Test.YtmbpckmpnnmnmacGreatYd
import Derived.Test.YtmbpckmpnnmnmacGreatYw
import Derived.Test.YtmbpckmpnnmnmacGreatYk
import Derived.Test.YtmbpckmpnnmnmacGreatYr
namespace Go.Proofs.YtmbpckmpnnmnmacGreat
namespace Img
open Idl (Stp chk)
variable {now disk : Img} {last : Int}
/-- what holds behind each step -/
structure Hold (now disk : Img) (last : Int) : Prop where
  good : Good now last
  ok : disk.check = 0
  fit : Fit now disk
  old : ∀ n, n < 8 → disk.live n = true → disk.stamp n ≤ last
theorem fit_self {m : Img} (h : m.check = 0) : Fit m m := by
  have w := well_iff.1 h
  refine ⟨fun n _ _ _ h => absurd rfl h, fun n k hn hk hne l1 l2 => stamps_ne w.stamps hk hn hne l2 l1, fun n p k q hn hp hk hq l1 h0 l2 e => ?_, fun _ _ _ _ _ _ _ _ => rfl, fun _ _ _ _ _ _ => sameEnt_of rfl, fun d s t hd hs ht hne hnm => names_apart h hd hs ht hne hnm⟩
  by_cases c : n = k ∧ p = q
  · obtain ⟨rfl, rfl⟩ := c; exact ⟨rfl, rfl, rfl⟩
  · have hD : isD (m.part n p) = true := by
      rcases checkPart_iff.1 ((inode_parts_ok h hn l1).2.2 p hp) with z | z
      · omega
      · exact z.1
    exact absurd e (part_ne h hn hp hk hq c l1 l2 hD)
/-- what lies there behind a Write -/
structure Wr (now disk E : Img) : Prop where
  ok : E.check = 0
  ino : ∀ k, k < 8 → E.live k = true → (now.live k = true ∧ E.stamp k = now.stamp k ∧ ∀ p, p < 2 → E.part k p = partAs now disk k p) ∨ (disk.live k = true ∧ E.stamp k = disk.stamp k ∧ ∀ p, p < 2 → E.part k p = disk.part k p)
  ent : ∀ d s, d < 3 → s < 4 → E.entry d s = disk.entry d s ∨ E.entry d s = now.entry d s ∨ E.entry d s = Ent.none
  dat : ∀ x, x < 9 → (E.of x = disk.of x ∧ E.text x = disk.text x) ∨ (E.of x = now.of x ∧ E.text x = now.text x)
theorem wr_of (hn : now.check = 0) (hd : disk.check = 0) (hf : Fit now disk) (b : Int) : Wr now disk (write now disk b) := by
  have hok := mends hn hd hf b
  rcases blocks b with h | ⟨k, hk, rfl⟩ | ⟨d, hd3, rfl⟩ | ⟨x, hx, rfl⟩
  · rw [write_out h] at hok ⊢
    exact ⟨hok, fun k _ hl => .inr ⟨hl, rfl, fun _ _ => rfl⟩, fun _ _ _ _ => .inl rfl, fun _ _ => .inl ⟨rfl, rfl⟩⟩
  · rw [write_ino hk] at hok ⊢
    have hr := wInos_rest now disk (k * 4) 4
    refine ⟨hok, fun j hj hl => ?_, fun d s _ _ => .inl (by unfold entry; rw [hr.1, hr.2.1, hr.2.2.1]), fun x _ => .inl (by rw [hr.2.2.2.1, hr.2.2.2.2]; exact ⟨rfl, rfl⟩)⟩
    rcases wInos_cases now disk (k * 4) j with ⟨x1, x2, x3⟩ | ⟨x1, x2⟩
    · obtain ⟨g1, g2, g3, g4, g5⟩ := inode_is x3
      rcases inodeAs_cases now disk j with ⟨c1, e⟩ | ⟨c1, c2, c3, e⟩ | ⟨c1, c2, e⟩ <;> rw [e] at g1 g2 g4 g5
      · refine .inl ⟨c1, g2, fun p hp => ?_⟩
        match p, hp with
        | 0, _ => exact g4
        | 1, _ => exact g5
      · refine .inr ⟨c2, g2, fun p hp => ?_⟩
        match p, hp with
        | 0, _ => exact g4
        | 1, _ => exact g5
      · rw [g1] at hl; cases hl
    · obtain ⟨g1, g2, g3, g4⟩ := inode_eq x2
      exact .inr ⟨by rw [← g1]; exact hl, g2, g4⟩
  · rw [write_dir hd3] at hok ⊢
    have hM := (Mix.refl now disk).wDir hd3 4 (by omega)
    have hr := wDir_rest now disk d 4
    refine ⟨hok, fun j _ hl => .inr ⟨by rw [← hr.1]; exact hl, by rw [hr.2.1], fun p _ => by rw [hr.2.2.2.1]⟩, hM.ent, fun x _ => .inl (by rw [hM.dat.1, hM.dat.2]; exact ⟨rfl, rfl⟩)⟩
  · rw [write_data hx] at hok ⊢
    refine ⟨hok, fun k _ hl => .inr ⟨hl, rfl, fun _ _ => rfl⟩, fun _ _ _ _ => .inl rfl, fun y _ => ?_⟩
    by_cases e : y = x
    · subst e; exact .inr ⟨if_pos rfl, if_pos rfl⟩
    · exact .inl ⟨if_neg e, if_neg e⟩
theorem lead_slot {m : Img} {d s n : Nat} (h : m.leads (n : Int) d s = true) : m.named d s = true ∧ m.ino d s = (n : Int) := by
  unfold leads at h; simp at h; exact h
theorem Wr.fit {E : Img} (hn : now.check = 0) (hf : Fit now disk) (h : Wr now disk E) : Fit now E := by
  refine ⟨fun n h8 l1 l2 hne => ?_, fun n k h8 hk hne l1 l2 => ?_, fun n p k q h8 hp hk hq l1 h0 l2 e => ?_, fun x n p hx h8 hp l e => ?_, fun d s hd hs h1 h2 => ?_, fun d s t hd hs ht hne hnm => ?_⟩
  · rcases h.ino n h8 l2 with ⟨_, b, _⟩ | ⟨a, b, _⟩
    · exact absurd b.symm hne
    · have h0 := hf.other n h8 l1 a (by rw [← b]; exact hne)
      refine refs_zero_iff.2 fun d s hd hs => ?_
      cases hl : E.leads (n : Int) d s
      · rfl
      · exfalso
        obtain ⟨h3, h4⟩ := lead_slot hl
        rcases h.ent d s hd hs with e | e | e
        · rw [leads_of_entry e, refs_zero_iff.1 h0 d s hd hs] at hl; cases hl
        · have s1 := (slot_lead h.ok hd hs hl).2.2
          rw [leads_of_entry e] at hl
          have s2 := (slot_lead hn hd hs hl).2.2
          rw [(named_entry e).2.2, ← s2] at s1
          exact hne s1.symm
        · rw [none_unnamed e] at h3; cases h3
  · rcases h.ino k hk l2 with ⟨a, b, _⟩ | ⟨a, b, _⟩ <;> rw [b]
    · exact stamps_ne (well_iff.1 hn).stamps hk h8 hne a l1
    · exact hf.stamp n k h8 hk hne l1 a
  · rcases h.ino k hk l2 with ⟨a, b, c⟩ | ⟨a, b, c⟩
    · rw [c q hq] at e
      rcases partAs_cases now disk k q with y | ⟨y1, y2, y3⟩ | ⟨y1, y2, y3⟩
      · omega
      · rw [y3] at e
        have := hf.data n p k q h8 hp hk hq l1 h0 y1 e
        exact ⟨this.1, this.2.1, by rw [b, this.1]⟩
      · rw [y3] at e
        by_cases z : k = n ∧ q = p
        · exact ⟨z.1, z.2, by rw [b, z.1]⟩
        · exact absurd e.symm (part_ne hn hk hq h8 hp z a l1 y1)
    · rw [c q hq] at e
      have := hf.data n p k q h8 hp hk hq l1 h0 a e
      exact ⟨this.1, this.2.1, by rw [b]; exact this.2.2⟩
  · rcases h.dat x hx with z | z
    · rw [z.1]
      rcases h.ino n h8 l with ⟨a, b, c⟩ | ⟨a, b, c⟩
      · rw [c p hp] at e
        rcases partAs_cases now disk n p with y | ⟨y1, y2, y3⟩ | ⟨y1, y2, y3⟩
        · omega
        · rw [y3] at e; exact hf.held x n p hx h8 hp y1 e
        · rw [y3] at e
          rw [e, Int.toNat_natCast] at y2
          rcases checkPart_iff.1 ((inode_parts_ok hn h8 a).2.2 p hp) with w | w
          · omega
          · rw [e, Int.toNat_natCast] at w; rw [w.2, y2]
      · rw [c p hp] at e; exact hf.held x n p hx h8 hp a e
    · exact z.1.symm
  · rcases h.ent d s hd hs with e | e | e
    · have := sameEnt_eq (hf.slot d s hd hs h1 (by rw [← named_of_entry e]; exact h2))
      exact sameEnt_of (this.trans e.symm)
    · exact sameEnt_of e.symm
    · rw [none_unnamed e] at h2; cases h2
  · rcases h.ent d t hd ht with e | e | e
    · rw [(named_entry e).1]; exact hf.name d s t hd hs ht hne hnm
    · rw [(named_entry e).1]; exact names_apart hn hd hs ht hne hnm
    · have : E.name d t = ⟨#[]⟩ := by unfold entry Ent.none at e; injection e
      rw [this, empty_list]
      intro z
      unfold named at hnm
      rw [← z] at hnm; simp at hnm
theorem Hold.write (h : Hold now disk last) (b : Int) : Hold now (Img.write now disk b) last := by
  have hw := wr_of h.good.ex.ok h.ok h.fit b
  refine ⟨h.good, hw.ok, hw.fit h.good.ex.ok h.fit, fun n hn hl => ?_⟩
  rcases hw.ino n hn hl with ⟨a, e, _⟩ | ⟨a, e, _⟩ <;> rw [e]
  · exact h.good.last n hn a
  · exact h.old n hn a
theorem Hold.down : ∀ b {D : Img}, Hold now D last → Hold now (Img.down now D b) last
  | 0, _, h => h
  | b + 1, _, h => by unfold Img.down; exact Hold.down b (h.write _)
theorem Hold.syn : ∀ f {D : Img}, Hold now D last → Hold now (Img.syn now f D).2 last
  | 0, _, h => h
  | f + 1, D, h => by
    cases e : sameImg now D
    · rw [syn_step e]; exact Hold.syn f (h.down 14)
    · rw [syn_stop e]; exact h
theorem Hold.lies (h : Hold now disk last) : Lies now disk :=
  ⟨fun d s hd hs h1 h2 => sameEnt_eq (h.fit.slot d s hd hs h1 h2), fun _ _ hd hs hu => empty_unnamed h.ok hd hs hu⟩
/-- what is to be, behind a step, is as it was, or leads to what the disk does not -/
theorem Fit.sub {now' : Img} (hf : Fit now disk)
    (hi : ∀ n, n < 8 → now'.live n = true → (now.live n = true ∧ now'.stamp n = now.stamp n ∧ ∀ p, p < 2 → now'.part n p = now.part n p ∨ now'.part n p < 0 ∨ ∀ k q, k < 8 → q < 2 → disk.live k = true → disk.part k q ≠ now'.part n p) ∨ (disk.refs n = 0 ∧ (∀ k, k < 8 → disk.live k = true → disk.stamp k ≠ now'.stamp n) ∧ ∀ p, p < 2 → now'.part n p < 0))
    (ho : ∀ x n p, x < 9 → n < 8 → p < 2 → disk.live n = true → disk.part n p = (x : Nat) → now'.of x = now.of x)
    (he : ∀ d s, d < 3 → s < 4 → now'.named d s = true → now'.entry d s = now.entry d s ∨ (disk.named d s = false ∧ ∀ t, t < 4 → (disk.name d t).toList ≠ (now'.name d s).toList)) : Fit now' disk := by
  refine ⟨fun n h8 l1 l2 hne => ?_, fun n k h8 hk hne l1 l2 => ?_, fun n p k q h8 hp hk hq l1 h0 l2 e => ?_, fun x n p hx h8 hp l e => ?_, fun d s hd hs h1 h2 => ?_, fun d s t hd hs ht hne hnm => ?_⟩
  · rcases hi n h8 l1 with ⟨a, b, _⟩ | ⟨a, _, _⟩
    · exact hf.other n h8 a l2 (by rw [← b]; exact hne)
    · exact a
  · rcases hi n h8 l1 with ⟨a, b, _⟩ | ⟨_, b, _⟩
    · rw [b]; exact hf.stamp n k h8 hk hne a l2
    · exact b k hk l2
  · rcases hi n h8 l1 with ⟨a, b, c⟩ | ⟨_, _, c⟩
    · rcases c p hp with z | z | z
      · rw [z] at e h0; rw [b]; exact hf.data n p k q h8 hp hk hq a h0 l2 e
      · omega
      · exact absurd e (z k q hk hq l2)
    · have := c p hp; omega
  · rw [ho x n p hx h8 hp l e]; exact hf.held x n p hx h8 hp l e
  · rcases he d s hd hs h1 with z | ⟨z, _⟩
    · have := sameEnt_eq (hf.slot d s hd hs (by rw [← named_of_entry z]; exact h1) h2)
      exact sameEnt_of (z.trans this)
    · rw [z] at h2; cases h2
  · rcases he d s hd hs hnm with z | ⟨_, z⟩
    · rw [(named_entry z).1]; exact hf.name d s t hd hs ht hne (by rw [← named_of_entry z]; exact hnm)
    · exact z t ht
theorem added_part (d : Int) (s : ByteArray) (n j p : Nat) (hp : p < 2) : (added now disk d s n).part j p = now.part j p := by
  show (if j = n then (if p = 0 then now.part n 0 else now.part n 1) else now.part j p) = _
  by_cases e : j = n
  · rw [if_pos e, e]
    match p, hp with
    | 0, _ => rfl
    | 1, _ => rfl
  · rw [if_neg e]
theorem dropped_part {d : Int} {s : ByteArray} {j : Nat} (h : (dropped now d s).live j = true) {p : Nat} (hp : p < 2) : (dropped now d s).part j p = now.part j p := by
  have h1 : (dropped1 now d s).part j p = now.part j p := by
    unfold dropped1
    rw [putIno_part]
    by_cases e : j = (inoOf now d s).toNat
    · rw [if_pos e, e]
      match p, hp with
      | 0, _ => rfl
      | 1, _ => rfl
    · rw [if_neg e]; rfl
  unfold dropped at h ⊢
  split at h
  · rename_i z
    rw [if_pos z]
    rw [putIno_live] at h
    by_cases e : j = (inoOf now d s).toNat
    · rw [if_pos e] at h; cases h
    · rw [putIno_part, if_neg e]; exact h1
  · rename_i z
    rw [if_neg z]; exact h1
theorem dropped_data (d : Int) (s : ByteArray) : (dropped now d s).of = now.of ∧ (dropped now d s).text = now.text := by
  unfold dropped
  split
  · exact ⟨rfl, rfl⟩
  · exact ⟨rfl, rfl⟩
theorem setPart_part (n p : Nat) (v : Int) (hp : p < 2) (j q : Nat) (hq : q < 2) : (now.setPart n p v).part j q = if j = n ∧ q = p then v else now.part j q := by
  show (if j = n then (if q = 0 then (if p = 0 then v else now.part n 0) else (if p = 1 then v else now.part n 1)) else now.part j q) = _
  by_cases e : j = n
  · subst e
    match p, hp, q, hq with
    | 0, _, 0, _ => simp
    | 0, _, 1, _ => simp
    | 1, _, 0, _ => simp
    | 1, _, 1, _ => simp
  · simp [e]
theorem disk_name {d : Int} {s : ByteArray} (h : disk.findAt d s.toList < 0) (hd : 0 ≤ d ∧ d < 3) (hs : isNmB s.toList = true) : ∀ t, t < 4 → (disk.name d.toNat t).toList ≠ s.toList := findAt_none h hd (nm_ne hs)
theorem fit_added (hf : Fit now disk) {d : Int} {s : ByteArray} {n k : Nat} (hS : SlotAt now disk d k) (h : ∀ t, t < 4 → (disk.name d.toNat t).toList ≠ s.toList) : Fit (added now disk d s n) disk := by
  refine hf.sub (fun j _ hl => .inl ⟨by rw [added_live] at hl; exact hl, added_stamp _ _ _ _, fun p hp => .inl (added_part d s n j p hp)⟩) (fun _ _ _ _ _ _ _ _ => rfl) (fun e t _ _ _ => ?_)
  by_cases c : e = d.toNat ∧ t = k
  · right
    rw [c.1, c.2, (named_entry (show (added now disk d s n).entry d.toNat k = ({ name := fun _ _ => s, ino := fun _ _ => (n : Int), est := fun _ _ => now.stamp n, live := now.live, stamp := now.stamp, links := now.links, part := now.part, of := now.of, text := now.text } : Img).entry d.toNat k from added_at d s n hS)).1]
    exact ⟨hS.disk, h⟩
  · exact .inl (added_other d s n hS c)
theorem fit_dropped (hf : Fit now disk) (d : Int) (s : ByteArray) : Fit (dropped now d s) disk :=
  hf.sub (fun j _ hl => .inl ⟨(dropped_live hl).1, (dropped_live hl).2, fun _ hp => .inl (dropped_part hl hp)⟩) (fun x _ _ _ _ _ _ _ => by rw [(dropped_data d s).1]) (fun e t _ _ hnm => (dropped_other d s e t).elim .inl (fun z => by rw [z] at hnm; cases hnm))
theorem fit_set (hf : Fit now disk) {n p : Nat} (hp : p < 2) {v : Int} (hv : v < 0 ∨ ∀ k q, k < 8 → q < 2 → disk.live k = true → disk.part k q ≠ v) : Fit (now.setPart n p v) disk := by
  refine hf.sub (fun j _ hl => .inl ⟨by rw [(setPart_same n p v j).1] at hl; exact hl, (setPart_same n p v j).2, fun q hq => ?_⟩) (fun _ _ _ _ _ _ _ _ => rfl) (fun _ _ _ _ _ => .inl rfl)
  rw [setPart_part n p v hp j q hq]
  by_cases c : j = n ∧ q = p
  · rw [if_pos c]; exact .inr hv
  · rw [if_neg c]; exact .inl rfl
theorem fit_putData (hf : Fit now disk) {x : Nat} {o : Int} (t : ByteArray) (h : ∀ n p, n < 8 → p < 2 → disk.live n = true → disk.part n p = (x : Nat) → o = now.of x) : Fit (now.putData x o t) disk := by
  refine hf.sub (fun j _ hl => .inl ⟨hl, rfl, fun _ _ => .inl rfl⟩) (fun y n p hy hn hp hl e => ?_) (fun _ _ _ _ _ => .inl rfl)
  show (if y = x then o else now.of y) = _
  by_cases c : y = x
  · subst c; rw [if_pos rfl]; exact h n p hn hp hl e
  · rw [if_neg c]
theorem fit_put (hn : now.check = 0) (hf : Fit now disk) {n p : Nat} (h8 : n < 8) (hp : p < 2) (hl : now.live n = true) (t : ByteArray) (hfree : now.part n p < 0 → ¬ freeData now disk < 0) : Fit (putPart now disk n p t) disk := by
  unfold putPart
  by_cases c : now.part n p < 0
  · simp only [if_pos c]
    obtain ⟨x, hx, ex, h1, h2⟩ := dataAt (hfree c)
    have hno : ∀ k q, k < 8 → q < 2 → disk.live k = true → disk.part k q ≠ (x : Int) := fun k q hk hq hlk => holds_not hx h2 hk hq hlk
    rw [ex]
    have hf' := fit_set (n := n) hf hp (v := (x : Int)) (.inr hno)
    have e1 : (now.setPart n p (x : Int)).part n p = (x : Int) := setPart_at hp _
    rw [e1, Int.toNat_natCast]
    exact fit_putData hf' t (fun k q hk hq hlk e => absurd e (hno k q hk hq hlk))
  · simp only [if_neg c]
    rcases checkPart_iff.1 ((inode_parts_ok hn h8 hl).2.2 p hp) with w | w
    · omega
    · exact fit_putData hf t (fun _ _ _ _ _ _ => w.2.symm)
theorem Hold.step (h : Hold now disk last) (x : Stp) : Hold (sstep now disk last x) disk (slast now disk last x) := by
  have hla : last ≤ slast now disk last x := by unfold slast; split <;> omega
  refine ⟨good_step h.good x, h.ok, ?_, fun n hn hl => by have := h.old n hn hl; omega⟩
  by_cases h0 : scode now disk x = 0
  · have t := take h0
    have hm := h.good.ex.ok
    rcases sstep_cases (last := last) h0 with ⟨k, e⟩ | ⟨k, e⟩ | ⟨k, e⟩ | ⟨k, e⟩ | ⟨k, e⟩ | ⟨k, e⟩ <;> rw [e]
    · obtain ⟨n, s, hc⟩ := comes h.good h0 k
      have hf1 : Fit (started now disk last) disk := by
        unfold started
        rw [hc.ino, Int.toNat_natCast]
        refine h.fit.sub (fun j hj hl => ?_) (fun _ _ _ _ _ _ _ _ => rfl) (fun _ _ _ _ _ => .inl rfl)
        rw [putIno_stamp]
        by_cases c : j = n
        · subst c
          rw [if_pos rfl]
          refine .inr ⟨hc.refs, fun i hi hli => by have := h.old i hi hli; show disk.stamp i ≠ last + 1; omega, fun p hp => ?_⟩
          rw [putIno_part, if_pos rfl]
          match p, hp with
          | 0, _ => show (-1 : Int) < 0; omega
          | 1, _ => show (-1 : Int) < 0; omega
        · rw [putIno_live, if_neg c] at hl
          rw [if_neg c]
          exact .inl ⟨hl, rfl, fun p _ => .inl (by rw [putIno_part, if_neg c])⟩
      exact fit_added hf1 hc.slot' (disk_name (t.slot k).2 t.dir t.name)
    · obtain ⟨k', n, s, hT, hS, hx⟩ := linked h.good h0 (.inl k)
      exact fit_added h.fit hS (disk_name (t.slot2 (.inl k)).2 (t.to (.inl k)).1 (t.to (.inl k)).2)
    · exact fit_dropped h.fit _ _
    · obtain ⟨k', n, s, hT, hS, hx⟩ := linked h.good h0 (.inr k)
      exact fit_dropped (fit_added h.fit hS (disk_name (t.slot2 (.inr k)).2 (t.to (.inr k)).1 (t.to (.inr k)).2)) _ _
    · obtain ⟨k', n, hT⟩ := there hm (t.old (by omega))
      have hp := t.part (.inl k)
      have hf := t.data k
      rw [hT.of, Int.toNat_natCast] at hf ⊢
      exact fit_put hm h.fit hT.n8 (by omega) hT.live x.text hf
    · have hp := t.part (.inr k)
      exact fit_set h.fit (by omega) (.inl (by omega))
  · rw [sstep_code h0]; exact h.fit
/-! a crash -/
def topTo (m : Img) : Nat → Int
  | 0 => 0
  | n + 1 => if m.stamp n > topTo m n then m.stamp n else topTo m n
def top (m : Img) : Int := topTo m 8
theorem topTo_is (m : Img) : ∀ n, 0 ≤ topTo m n ∧ (∀ k, k < n → m.stamp k ≤ topTo m n) ∧ (topTo m n = 0 ∨ ∃ k, k < n ∧ topTo m n = m.stamp k)
  | 0 => ⟨Int.le_refl _, fun k hk => by omega, .inl rfl⟩
  | n + 1 => by
    obtain ⟨h1, h2, h3⟩ := topTo_is m n
    unfold topTo
    by_cases c : m.stamp n > topTo m n
    · rw [if_pos c]
      refine ⟨by omega, fun k hk => ?_, .inr ⟨n, by omega, rfl⟩⟩
      by_cases e : k = n
      · rw [e]; exact Int.le_refl _
      · have := h2 k (by omega); omega
    · rw [if_neg c]
      refine ⟨h1, fun k hk => ?_, ?_⟩
      · by_cases e : k = n
        · rw [e]; omega
        · exact h2 k (by omega)
      · rcases h3 with z | ⟨k, hk, z⟩
        · exact .inl z
        · exact .inr ⟨k, by omega, z⟩
theorem stamp_nonneg {m : Img} (h : m.check = 0) {n : Nat} (hn : n < 8) : 0 ≤ m.stamp n := by
  cases hl : m.live n
  · have e := (inode_is (inode_free_ok h hn hl)).2.1
    rw [e]; exact Int.le_refl _
  · have := (inode_parts_ok h hn hl).1; omega
theorem top_is {m : Img} (h : m.check = 0) {b : Nat} (hb : b < 8) (hm : ∀ k, k < 8 → m.stamp k ≤ m.stamp b) : m.stamp b = top m := by
  obtain ⟨h1, h2, h3⟩ := topTo_is m 8
  have h4 := h2 b hb
  have h5 := stamp_nonneg h hb
  unfold top
  rcases h3 with z | ⟨k, hk, z⟩
  · omega
  · have := hm k hk; omega
theorem hold_self {m : Img} (h : Ex m) : Hold m m (top m) := by
  obtain ⟨h1, h2, h3⟩ := topTo_is m 8
  exact ⟨⟨h, h1, fun n hn _ => h2 n hn⟩, h.ok, fit_self h.ok, fun n hn _ => h2 n hn⟩
theorem Hold.crash (h : Hold now disk last) : Hold (mend disk) (mend disk) (top (mend disk)) := hold_self (mend_ex h.ok)
/-! all steps -/
def lnow (m k : Img) (last : Int) (x : Stp) : Img := if x.kind = 9 then mend k else if x.kind = 7 ∨ x.kind = 8 then m else sstep m k last x
def ldisk (m k : Img) (x : Stp) : Img := if x.kind = 9 then mend k else if x.kind = 7 then write m k x.p else if x.kind = 8 then (syn m 8 k).2 else k
def llast (m k : Img) (last : Int) (x : Stp) : Int := if x.kind = 9 then top (mend k) else if x.kind = 7 ∨ x.kind = 8 then last else slast m k last x
def lcode (m k : Img) (x : Stp) : Int := if x.kind = 9 then 0 else if x.kind = 7 then (if inB x.p = true then 0 else 1) else if x.kind = 8 then 0 else scode m k x
theorem Hold.any (h : Hold now disk last) (x : Stp) : Hold (lnow now disk last x) (ldisk now disk x) (llast now disk last x) := by
  unfold lnow ldisk llast
  by_cases k9 : x.kind = 9
  · simp only [if_pos k9]; exact h.crash
  · simp only [if_neg k9]
    by_cases k7 : x.kind = 7
    · rw [if_pos (.inl k7), if_pos k7, if_pos (.inl k7)]; exact h.write _
    · by_cases k8 : x.kind = 8
      · rw [if_pos (.inr k8), if_neg k7, if_pos k8, if_pos (.inr k8)]; exact h.syn 8
      · rw [if_neg (by omega), if_neg k7, if_neg k8, if_neg (by omega)]; exact h.step x
theorem top_le (h : Hold now disk last) : top (mend disk) ≤ last := by
  obtain ⟨h1, h2, h3⟩ := topTo_is (mend disk) 8
  have hl := h.good.lo
  unfold top
  rcases h3 with z | ⟨k, hk, z⟩
  · omega
  · rw [z]
    cases hl2 : (mend disk).live k
    · rw [(inode_is (inode_free_ok (mend_check h.ok) hk hl2)).2.1]; exact hl
    · rw [mend_live hk] at hl2
      simp at hl2
      rw [(left hk hl2.2).stamp]; exact h.old k hk hl2.1
theorem llast_le (h : Hold now disk last) (x : Stp) : llast now disk last x ≤ last + 1 := by
  unfold llast
  split
  · have := top_le h; omega
  · split
    · omega
    · exact slast_le x
end Img
end Go.Proofs.YtmbpckmpnnmnmacGreat
namespace Go.Proofs.YtmbpckmpnnmnmacGreat
namespace Img
open Idl (Stp chk)
variable {now disk : Img} {last : Int}
theorem syn_three (hx : Ex now) {D : Img} (h : Lies now D) : (Img.syn now 8 D).1 ≤ 3 := by
  have hn := hx.ok
  cases e : sameImg now D
  case true => rw [syn_stop e]; exact Nat.zero_le _
  rw [syn_step e]
  have h1 := h.down hn 14
  have r1 := round_of hn h.slot
  generalize Img.down now D 14 = D1 at h1 r1
  show (Img.syn now 7 D1).1 + 1 ≤ 3
  cases e1 : sameImg now D1
  case true => rw [syn_stop e1]; exact Nat.le_add_left 1 2
  rw [syn_step e1]
  have h2 := h1.down hn 14
  have r2 := round_of hn h1.slot
  have f2 := full_of hn r1
  generalize Img.down now D1 14 = D2 at h2 r2 f2
  show (Img.syn now 6 D2).1 + 1 + 1 ≤ 3
  cases e2 : sameImg now D2
  case true => rw [syn_stop e2]; exact Nat.le_add_left 2 1
  rw [syn_step e2]
  have a3 := done_of hx r2 f2 h2.free
  generalize Img.down now D2 14 = D3 at a3
  show (Img.syn now 5 D3).1 + 1 + 1 + 1 ≤ 3
  rw [syn_stop (same_iff.2 a3)]
  exact Nat.le_refl _
/-! what is Exact, mended -/
theorem ex_goes {m : Img} (h : Ex m) {n : Nat} (hn : n < 8) : goes m n = false := by
  unfold goes
  cases hl : m.live n
  · rfl
  · have := h.links n hn hl
    have h0 : m.refs (n : Int) ≠ 0 := by omega
    simpa using h0
theorem ex_other {m : Img} (h : Ex m) {n : Nat} (hn : n < 8) : other m n = false := by
  cases hl : m.live n
  · exact free_links h.ok hn hl
  · unfold other
    rw [(h.links n hn hl).1]; simp
theorem ex_mend1 {m : Img} (h : Ex m) : mend1 m = m := dropTo_same 8 fun _ hn => ex_goes h hn
theorem ex_mend2 {m : Img} (h : Ex m) : mend2 m = m := by
  unfold mend2; rw [ex_mend1 h]; exact setTo_same 8 fun _ hn => ex_other h hn
theorem ex_mend {m : Img} (h : Ex m) : mend m = clearTo m 9 ∧ lostF m = 0 ∧ lostC m = 0 := by
  refine ⟨by unfold mend; rw [ex_mend2 h], cnt_none fun n hn => ex_goes h hn, ?_⟩
  unfold lostC; rw [ex_mend1 h]; exact cnt_none fun n hn => ex_other h hn
/-- data that nothing leads to are emptied -/
def wipeTo (m : Img) : Nat → Img
  | 0 => m
  | x + 1 => if m.holds (x : Int) = true then wipeTo m x else (wipeTo m x).putData x 0 ⟨#[]⟩
theorem wipeTo_rest (m : Img) : ∀ k, (wipeTo m k).live = m.live ∧ (wipeTo m k).stamp = m.stamp ∧ (wipeTo m k).links = m.links ∧ (wipeTo m k).part = m.part ∧ (wipeTo m k).name = m.name ∧ (wipeTo m k).ino = m.ino ∧ (wipeTo m k).est = m.est
  | 0 => ⟨rfl, rfl, rfl, rfl, rfl, rfl, rfl⟩
  | k + 1 => by
    have := wipeTo_rest m k
    unfold wipeTo
    split
    · exact this
    · exact this
theorem wipeTo_holds (m : Img) (k : Nat) (x : Int) : (wipeTo m k).holds x = m.holds x := holds_rest (wipeTo_rest m k).1 (wipeTo_rest m k).2.2.2.1 x
theorem wipeTo_data (m : Img) (x : Nat) : ∀ k, (wipeTo m k).of x = (if x < k ∧ m.holds (x : Int) = false then 0 else m.of x) ∧ (wipeTo m k).text x = (if x < k ∧ m.holds (x : Int) = false then ⟨#[]⟩ else m.text x)
  | 0 => by simp [wipeTo]
  | k + 1 => by
    have ih := wipeTo_data m x k
    unfold wipeTo
    by_cases hg : m.holds (k : Int) = true
    · rw [if_pos hg, ih.1, ih.2]
      by_cases e : x = k
      · subst e
        have h0 : ¬ (x < x ∧ m.holds (x : Int) = false) := by intro z; omega
        have h1 : ¬ (x < x + 1 ∧ m.holds (x : Int) = false) := by intro z; rw [hg] at z; cases z.2
        rw [if_neg h0, if_neg h0, if_neg h1, if_neg h1]; exact ⟨rfl, rfl⟩
      · by_cases h : x < k ∧ m.holds (x : Int) = false
        · rw [if_pos h, if_pos h, if_pos ⟨by omega, h.2⟩, if_pos ⟨by omega, h.2⟩]; exact ⟨rfl, rfl⟩
        · rw [if_neg h, if_neg h, if_neg (by intro z; exact h ⟨by omega, z.2⟩), if_neg (by intro z; exact h ⟨by omega, z.2⟩)]; exact ⟨rfl, rfl⟩
    · rw [if_neg hg]
      have hg' : m.holds (k : Int) = false := by simpa using hg
      by_cases e : x = k
      · subst e
        rw [if_pos ⟨by omega, hg'⟩, if_pos ⟨by omega, hg'⟩]
        exact ⟨if_pos rfl, if_pos rfl⟩
      · show (if x = k then 0 else (wipeTo m k).of x) = _ ∧ (if x = k then ⟨#[]⟩ else (wipeTo m k).text x) = _
        rw [if_neg e, if_neg e, ih.1, ih.2]
        by_cases h : x < k ∧ m.holds (x : Int) = false
        · rw [if_pos h, if_pos h, if_pos ⟨by omega, h.2⟩, if_pos ⟨by omega, h.2⟩]; exact ⟨rfl, rfl⟩
        · rw [if_neg h, if_neg h, if_neg (by intro z; exact h ⟨by omega, z.2⟩), if_neg (by intro z; exact h ⟨by omega, z.2⟩)]; exact ⟨rfl, rfl⟩
theorem wipe_mend {m : Img} (h : Ex m) : sameImg (wipeTo m 9) (mend m) = true := by
  rw [(ex_mend h).1]
  refine same_iff.2 ?_
  obtain ⟨a1, a2, a3, a4, a5, a6, a7⟩ := wipeTo_rest m 9
  obtain ⟨b1, b2, b3, b4, b5, b6, b7⟩ := clearTo_rest m 9
  refine .mk3 (fun n _ => by unfold inode; rw [a1, a2, a3, a4, b1, b2, b3, b4]) (fun d s _ _ => by unfold entry; rw [a5, a6, a7, b5, b6, b7]) (fun x hx => ?_)
  rw [(wipeTo_data m x 9).1, (wipeTo_data m x 9).2, (clearTo_data m x 9).1, (clearTo_data m x 9).2]
  unfold lost
  cases hh : m.holds (x : Int)
  · have c1 : x < 9 ∧ false = false := ⟨hx, rfl⟩
    rw [if_pos c1, if_pos c1]
    cases hf : full m x
    · have hz : m.of x = 0 ∧ (m.text x).toList = [] := by unfold full at hf; simpa using hf
      rw [if_neg (by simp), if_neg (by simp), hz.1]
      refine ⟨rfl, ?_⟩
      exact bytes_ext (by rw [hz.2, empty_list])
    · rw [if_pos ⟨hx, rfl⟩, if_pos ⟨hx, rfl⟩]; exact ⟨rfl, rfl⟩
  · rw [if_neg (by simp), if_neg (by simp), if_neg (by simp), if_neg (by simp)]; exact ⟨rfl, rfl⟩
/-! a file that has a name on the disk -/
def onDisk (m k : Img) (n : Nat) : Bool := k.live n && (k.stamp n == m.stamp n && decide (0 < k.refs (n : Int)))
theorem onDisk_iff {m k : Img} {n : Nat} : onDisk m k n = true ↔ k.live n = true ∧ k.stamp n = m.stamp n ∧ 0 < k.refs (n : Int) := by
  unfold onDisk; simp
theorem onDisk_of (h : Hold now disk last) {n : Nat} (hn : n < 8) (hl : now.live n = true) (hr : 0 < disk.refs (n : Int)) : onDisk now disk n = true := by
  have l2 : disk.live n = true := by
    cases e : disk.live n
    · have := dead_refs h.ok e; omega
    · rfl
  refine onDisk_iff.2 ⟨l2, ?_, hr⟩
  by_cases e : now.stamp n = disk.stamp n
  · exact e.symm
  · have := h.fit.other n hn hl l2 e; omega
theorem onDisk_write (h : Hold now disk last) {n : Nat} (hn : n < 8) (hl : now.live n = true) (ho : onDisk now disk n = true) (b : Int) : onDisk now (Img.write now disk b) n = true := by
  have hk := (kept now disk b n).last (onDisk_iff.1 ho).2.2 (by have := h.good.ex.links n hn hl; omega)
  exact onDisk_of (h.write b) hn hl hk
theorem onDisk_down {n : Nat} (hn : n < 8) (hl : now.live n = true) : ∀ b {D : Img}, Hold now D last → onDisk now D n = true → onDisk now (Img.down now D b) n = true
  | 0, _, _, ho => ho
  | b + 1, _, h, ho => by unfold Img.down; exact onDisk_down hn hl b (h.write _) (onDisk_write h hn hl ho _)
theorem onDisk_syn {n : Nat} (hn : n < 8) (hl : now.live n = true) : ∀ f {D : Img}, Hold now D last → onDisk now D n = true → onDisk now (Img.syn now f D).2 n = true
  | 0, _, _, ho => ho
  | f + 1, D, h, ho => by
    cases e : sameImg now D
    · rw [syn_step e]; exact onDisk_syn hn hl f (h.down 14) (onDisk_down hn hl 14 h ho)
    · rw [syn_stop e]; exact ho
/-- a file that is there behind a step of files was there, or is new -/
theorem sstep_live (x : Stp) {n : Nat} (hl : (sstep now disk last x).live n = true) : (now.live n = true ∧ (sstep now disk last x).stamp n = now.stamp n) ∨ (sstep now disk last x).stamp n = last + 1 := by
  by_cases h0 : scode now disk x = 0
  · have t := take h0
    rcases sstep_cases (last := last) h0 with ⟨k, e⟩ | ⟨k, e⟩ | ⟨k, e⟩ | ⟨k, e⟩ | ⟨k, e⟩ | ⟨k, e⟩ <;> rw [e] at hl ⊢
    · rw [added_live] at hl
      rw [added_stamp]
      unfold started at hl ⊢
      rw [putIno_live] at hl
      rw [putIno_stamp]
      by_cases c : n = (freeIno now disk).toNat
      · rw [if_pos c]; exact .inr rfl
      · rw [if_neg c] at hl ⊢; exact .inl ⟨hl, rfl⟩
    · rw [added_live] at hl; exact .inl ⟨hl, added_stamp _ _ _ _⟩
    · exact .inl (dropped_live hl)
    · obtain ⟨a1, a2⟩ := dropped_live hl
      rw [added_live] at a1
      rw [added_stamp] at a2
      exact .inl ⟨a1, a2⟩
    · rw [(putPart_same _ _ _ n).1] at hl; exact .inl ⟨hl, (putPart_same _ _ _ n).2⟩
    · rw [(setPart_same _ _ _ n).1] at hl; exact .inl ⟨hl, (setPart_same _ _ _ n).2⟩
  · rw [sstep_code h0] at hl ⊢; exact .inl ⟨hl, rfl⟩
/-- those that are safe: their Stamps -/
def safeTo (m k : Img) : Nat → List Int
  | 0 => []
  | n + 1 => if m.live n = true ∧ onDisk m k n = true then safeTo m k n ++ [m.stamp n] else safeTo m k n
theorem safe_mem {m k : Img} {s : Int} : ∀ {i : Nat}, s ∈ safeTo m k i ↔ ∃ n, n < i ∧ m.live n = true ∧ onDisk m k n = true ∧ s = m.stamp n
  | 0 => ⟨fun h => by simp [safeTo] at h, fun ⟨_, h, _⟩ => by omega⟩
  | i + 1 => by
    unfold safeTo
    by_cases c : m.live i = true ∧ onDisk m k i = true
    · rw [if_pos c, List.mem_append, List.mem_singleton, safe_mem (i := i)]
      constructor
      · rintro (⟨n, h1, h2⟩ | h)
        · exact ⟨n, by omega, h2⟩
        · exact ⟨i, by omega, c.1, c.2, h⟩
      · rintro ⟨n, h1, h2, h3, h4⟩
        by_cases e : n = i
        · subst e; exact .inr h4
        · exact .inl ⟨n, by omega, h2, h3, h4⟩
    · rw [if_neg c, safe_mem (i := i)]
      constructor
      · rintro ⟨n, h1, h2⟩; exact ⟨n, by omega, h2⟩
      · rintro ⟨n, h1, h2, h3, h4⟩
        by_cases e : n = i
        · subst e; exact absurd ⟨h2, h3⟩ c
        · exact ⟨n, by omega, h2, h3, h4⟩
theorem safe_len (m k : Img) : ∀ i, (safeTo m k i).length ≤ i
  | 0 => Nat.le_refl _
  | i + 1 => by
    have := safe_len m k i
    unfold safeTo
    split
    · simp; omega
    · omega
theorem mend_on {n : Nat} (hr : 0 < disk.refs (n : Int)) : goes disk n = false := by
  unfold goes
  have : (disk.refs (n : Int) == 0) = false := by simp; omega
  rw [this]; simp
/-- a file that is safe has a name on the disk behind the next step, if it is still to be -/
theorem safe_step (h : Hold now disk last) (x : Stp) {n : Nat} (hn : n < 8) (hl : (lnow now disk last x).live n = true) (hs : (lnow now disk last x).stamp n ∈ safeTo now disk 8) : onDisk (lnow now disk last x) (ldisk now disk x) n = true := by
  obtain ⟨j, hj, l1, ho, e⟩ := safe_mem.1 hs
  have wn := (well_iff.1 h.good.ex.ok).stamps
  have hold' := h.any x
  obtain ⟨o1, o2, o3⟩ := onDisk_iff.1 ho
  refine onDisk_of hold' hn hl ?_
  by_cases k9 : x.kind = 9
  · have e1 : lnow now disk last x = mend disk := if_pos k9
    have e2 : ldisk now disk x = mend disk := if_pos k9
    rw [e1] at hl e
    rw [e2, mend_refs]
    rw [mend_live hn] at hl
    simp at hl
    rw [(left hn hl.2).stamp] at e
    by_cases c : n = j
    · rw [c]; exact o3
    · exact absurd (e.trans o2.symm) (stamps_ne (well_iff.1 h.ok).stamps hn hj c hl.1 o1)
  · by_cases k7 : x.kind = 7
    · have e1 : lnow now disk last x = now := by unfold lnow; rw [if_neg k9, if_pos (.inl k7)]
      have e2 : ldisk now disk x = Img.write now disk x.p := by unfold ldisk; rw [if_neg k9, if_pos k7]
      rw [e1] at hl e
      rw [e2]
      have c : n = j := Decidable.byContradiction fun c => stamps_ne wn hn hj c hl l1 e
      subst c
      exact (onDisk_iff.1 (onDisk_write h hn hl ho _)).2.2
    · by_cases k8 : x.kind = 8
      · have e1 : lnow now disk last x = now := by unfold lnow; rw [if_neg k9, if_pos (.inr k8)]
        have e2 : ldisk now disk x = (Img.syn now 8 disk).2 := by unfold ldisk; rw [if_neg k9, if_neg k7, if_pos k8]
        rw [e1] at hl e
        rw [e2]
        have c : n = j := Decidable.byContradiction fun c => stamps_ne wn hn hj c hl l1 e
        subst c
        exact (onDisk_iff.1 (onDisk_syn hn hl 8 h ho)).2.2
      · have e1 : lnow now disk last x = sstep now disk last x := by unfold lnow; rw [if_neg k9, if_neg (by omega)]
        have e2 : ldisk now disk x = disk := by unfold ldisk; rw [if_neg k9, if_neg k7, if_neg k8]
        rw [e1] at hl e
        rw [e2]
        rcases sstep_live x hl with ⟨a, b⟩ | b
        · rw [b] at e
          have c : n = j := Decidable.byContradiction fun c => stamps_ne wn hn hj c a l1 e
          subst c; exact o3
        · rw [b] at e
          have := h.good.last j hj l1
          omega
/-- behind a crash all that were safe are there -/
theorem safe_crash {x : Stp} (k9 : x.kind = 9) {s : Int} (hs : s ∈ safeTo now disk 8) : s ∈ safeTo (lnow now disk last x) (ldisk now disk x) 8 := by
  have e1 : lnow now disk last x = mend disk := if_pos k9
  have e2 : ldisk now disk x = mend disk := if_pos k9
  obtain ⟨j, hj, l1, ho, e⟩ := safe_mem.1 hs
  obtain ⟨o1, o2, o3⟩ := onDisk_iff.1 ho
  have hg := mend_on o3
  have hL := left hj hg
  rw [e1, e2]
  have hlm : (mend disk).live j = true := by rw [hL.live]; exact o1
  exact safe_mem.2 ⟨j, hj, hlm, onDisk_iff.2 ⟨hlm, rfl, by rw [mend_refs]; exact o3⟩, by rw [hL.stamp, o2, e]⟩
/-! what was put -/
/-- each data is of none, or of a file, and its text was put into that file -/
def Own (l : List (Int × ByteArray)) (m : Img) (last : Int) : Prop := ∀ x, x < 9 → m.of x = 0 ∨ (1 ≤ m.of x ∧ m.of x ≤ last ∧ (m.of x, m.text x) ∈ l)
theorem Own.write {l : List (Int × ByteArray)} (h : Hold now disk last) (h1 : Own l now last) (h2 : Own l disk last) (b : Int) : Own l (Img.write now disk b) last := fun x hx => by
  rcases (wr_of h.good.ex.ok h.ok h.fit b).dat x hx with z | z <;> rw [z.1, z.2]
  · exact h2 x hx
  · exact h1 x hx
theorem Own.down {l : List (Int × ByteArray)} (h1 : Own l now last) : ∀ b {D : Img}, Hold now D last → Own l D last → Own l (Img.down now D b) last
  | 0, _, _, h => h
  | b + 1, _, h, h2 => by unfold Img.down; exact Own.down h1 b (h.write _) (Own.write h h1 h2 _)
theorem Own.syn {l : List (Int × ByteArray)} (h1 : Own l now last) : ∀ f {D : Img}, Hold now D last → Own l D last → Own l (Img.syn now f D).2 last
  | 0, _, _, h => h
  | f + 1, D, h, h2 => by
    cases e : sameImg now D
    · rw [syn_step e]; exact Own.syn h1 f (h.down 14) (Own.down h1 14 h h2)
    · rw [syn_stop e]; exact h2
theorem Own.crash {l : List (Int × ByteArray)} (h : Hold now disk last) (h2 : Own l disk last) : Own l (mend disk) (top (mend disk)) := fun x hx => by
  have hc := mend_check h.ok
  have hd := mend_data disk hx
  cases hl : lost (mend2 disk) x
  · rw [hl] at hd
    rw [if_neg (by simp), if_neg (by simp)] at hd
    rcases h2 x hx with z | ⟨z1, z2, z3⟩
    · exact .inl (by rw [hd.1]; exact z)
    · rw [hd.1, hd.2]
      refine .inr ⟨z1, ?_, z3⟩
      have hf : full (mend2 disk) x = true := by
        rw [full2]; unfold full
        have : (disk.of x == 0) = false := by simp; omega
        rw [this]; rfl
      unfold lost at hl
      rw [hf, Bool.true_and] at hl
      have hh : (mend disk).holds (x : Int) = true := by rw [mend_holds]; simpa using hl
      unfold holds at hh
      rw [Bool.and_eq_true] at hh
      obtain ⟨n, hn, hp⟩ := anyB_at hh.2
      rw [Bool.and_eq_true] at hp
      have hp2 : ∃ p, p < 2 ∧ (mend disk).part n p = (x : Int) := by
        have := hp.2
        unfold hasPart at this
        rw [Bool.or_eq_true] at this
        rcases this with y | y
        · exact ⟨0, by omega, by simpa using y⟩
        · exact ⟨1, by omega, by simpa using y⟩
      obtain ⟨p, hp3, ep⟩ := hp2
      rcases checkPart_iff.1 ((inode_parts_ok hc hn hp.1).2.2 p hp3) with y | y
      · omega
      · rw [ep, Int.toNat_natCast] at y
        rw [← hd.1, y.2]
        exact (topTo_is (mend disk) 8).2.1 n hn
  · rw [hl] at hd
    rw [if_pos rfl] at hd
    exact .inl hd.1
theorem Own.mono {l : List (Int × ByteArray)} {m : Img} {la : Int} (h : Own l m last) (hl : last ≤ la) : Own l m la := fun x hx => by
  rcases h x hx with z | ⟨z1, z2, z3⟩
  · exact .inl z
  · exact .inr ⟨z1, by omega, z3⟩
theorem Own.more {l : List (Int × ByteArray)} {m : Img} (h : Own l m last) (e : Int × ByteArray) : Own (l ++ [e]) m last := fun x hx => by
  rcases h x hx with z | ⟨z1, z2, z3⟩
  · exact .inl z
  · exact .inr ⟨z1, z2, List.mem_append_left _ z3⟩
/-- what was put into a file that is no more is forgotten -/
def forget (l : List (Int × ByteArray)) (s : Int) : List (Int × ByteArray) := l.map fun e => if e.1 = s then (0, e.2) else e
theorem Own.forget {l : List (Int × ByteArray)} {m : Img} (h : Own l m last) {s : Int} (hs : last < s) : Own (Img.forget l s) m last := fun x hx => by
  rcases h x hx with z | ⟨z1, z2, z3⟩
  · exact .inl z
  · refine .inr ⟨z1, z2, List.mem_map.2 ⟨_, z3, ?_⟩⟩
    rw [if_neg (by show ¬ m.of x = s; omega)]
theorem own_put {l : List (Int × ByteArray)} (h : Own l now last) {n p : Nat} (hn : now.check = 0) (hn8 : n < 8) (hl : now.live n = true) (hla : now.stamp n ≤ last) (t : ByteArray) : Own (l ++ [(now.stamp n, t)]) (putPart now disk n p t) last := fun x hx => by
  have key : ∀ (m : Img) (y : Nat), m.of = now.of → m.text = now.text → ((m.putData y (now.stamp n) t).of x = now.stamp n ∧ (m.putData y (now.stamp n) t).text x = t) ∨ ((m.putData y (now.stamp n) t).of x = now.of x ∧ (m.putData y (now.stamp n) t).text x = now.text x) := fun m y e1 e2 => by
    by_cases c : x = y
    · exact .inl ⟨if_pos c, if_pos c⟩
    · exact .inr ⟨(if_neg c).trans (by rw [e1]), (if_neg c).trans (by rw [e2])⟩
  have h1 := (inode_parts_ok hn hn8 hl).1
  have h2 := (h.more (now.stamp n, t)) x hx
  unfold putPart
  by_cases c : now.part n p < 0
  · simp only [if_pos c]
    rw [(setPart_same n p _ n).2]
    rcases key (now.setPart n p (freeData now disk)) ((now.setPart n p (freeData now disk)).part n p).toNat rfl rfl with z | z <;> rw [z.1, z.2]
    · exact .inr ⟨h1, hla, by simp⟩
    · exact h2
  · simp only [if_neg c]
    rcases key now (now.part n p).toNat rfl rfl with z | z <;> rw [z.1, z.2]
    · exact .inr ⟨h1, hla, by simp⟩
    · exact h2
theorem own_same {l : List (Int × ByteArray)} {m' : Img} (h : Own l now last) (e1 : m'.of = now.of) (e2 : m'.text = now.text) : Own l m' last := fun x hx => by rw [e1, e2]; exact h x hx
end Img
end Go.Proofs.YtmbpckmpnnmnmacGreat
namespace Go.Proofs.YtmbpckmpnnmnmacGreat
open Go.RowKit
open Idl (Stp chk stpA)
/-- a life: what is to be, the disk, the last Stamp, how many crashes, what the last one cost -/
structure Lv where
  now : Img
  disk : Img
  last : Int
  cr : Int
  lf : Int
  lc : Int
  ld : Int
def Lv.new : Lv := ⟨blankI, blankI, 0, 0, 0, 0, 0⟩
def Lv.crash (S : Lv) : Lv := ⟨Img.mend S.disk, Img.mend S.disk, Img.top (Img.mend S.disk), S.cr + 1, (Img.lostF S.disk : Nat), (Img.lostC S.disk : Nat), (Img.lostD S.disk : Nat)⟩
def Lv.step (S : Lv) (x : Stp) : Lv :=
  if x.kind = 9 then S.crash else ⟨Img.lnow S.now S.disk S.last x, Img.ldisk S.now S.disk x, Img.llast S.now S.disk S.last x, S.cr, S.lf, S.lc, S.ld⟩
def Lv.code (S : Lv) (x : Stp) : Int := Img.lcode S.now S.disk x
/-- what holds of it behind n steps -/
structure Lv.Ok (S : Lv) (n : Nat) : Prop where
  hold : Img.Hold S.now S.disk S.last
  few : S.last ≤ n
  cr0 : 0 ≤ S.cr
  crn : S.cr ≤ n
theorem Lv.step_now (S : Lv) (x : Stp) : (S.step x).now = Img.lnow S.now S.disk S.last x := by
  unfold Lv.step
  by_cases h : x.kind = 9
  · rw [if_pos h]; exact (if_pos h).symm
  · rw [if_neg h]
theorem Lv.step_disk (S : Lv) (x : Stp) : (S.step x).disk = Img.ldisk S.now S.disk x := by
  unfold Lv.step
  by_cases h : x.kind = 9
  · rw [if_pos h]; exact (if_pos h).symm
  · rw [if_neg h]
theorem Lv.step_last (S : Lv) (x : Stp) : (S.step x).last = Img.llast S.now S.disk S.last x := by
  unfold Lv.step
  by_cases h : x.kind = 9
  · rw [if_pos h]; exact (if_pos h).symm
  · rw [if_neg h]
theorem Lv.Ok.start : Lv.new.Ok 0 := ⟨by
  have h : Img.top blankI = 0 := by kernel_rfl
  have := Img.hold_self (m := blankI) Sft.good0.ex
  rw [h] at this; exact this, Int.le_refl _, Int.le_refl _, Int.le_refl _⟩
theorem Lv.Ok.any {S : Lv} {n : Nat} (h : S.Ok n) (x : Stp) : (S.step x).Ok (n + 1) := by
  refine ⟨?_, ?_, ?_, ?_⟩
  · rw [S.step_now, S.step_disk, S.step_last]; exact h.hold.any x
  · rw [S.step_last]; have := Img.llast_le h.hold x; have := h.few; omega
  · have := h.cr0
    unfold Lv.step
    split
    · show 0 ≤ S.cr + 1; omega
    · exact this
  · have := h.crn
    unfold Lv.step
    split
    · show S.cr + 1 ≤ _; omega
    · show S.cr ≤ _; omega
def lvA (bf : Nat) (S : Lv) : Array Value := #[.pointer (some ⟨bf, 0, none⟩), .int .i64 S.cr, .int .i64 S.lf, .int .i64 S.lc, .int .i64 S.ld]
/-- a life made behind w -/
structure Lo (w : World) (bl bf bc : Nat) (S : Lv) (W : World) : Prop where
  fo : Fo w bf bc S.now S.disk S.last W
  root : W.heap[bl]? = some (.cells (lvA bf S) 50)
  l0 : w.heap.size ≤ bl
  nf : bl ≠ bf
  nc : bl ≠ bc
/-- what a call of it leaves of other blocks -/
structure Lc (bl bf bc bf' bc' : Nat) (W W' : World) : Prop where
  size : W.heap.size ≤ W'.heap.size
  old : ∀ j, j < W.heap.size → j ≠ bl → j ≠ bf → j ≠ bc → W'.heap[j]? = W.heap[j]?
  new : (bf' = bf ∧ bc' = bc) ∨ (W.heap.size ≤ bf' ∧ W.heap.size ≤ bc')
section
variable {w W W' : World} {bl bf bc : Nat} {S : Lv}
theorem Lo.lt (h : Lo w bl bf bc S W) : bl < W.heap.size := (Array.getElem?_eq_some_iff.1 h.root).1
theorem Lo.call (h : Lo w bl bf bc S W) (hb : Below W.heap.size W W') : Lo w bl bf bc S W' := ⟨h.fo.call hb, by rw [hb.block _ h.lt]; exact h.root, h.l0, h.nf, h.nc⟩
theorem Lo.ptr (h : Lo w bl bf bc S W) : W.cell? ⟨bl, 0, none⟩ = some (.pointer (some ⟨bf, 0, none⟩)) := by rw [cell_of_row W bl 0 _ _ _ h.root]; rfl
theorem Lo.crs (h : Lo w bl bf bc S W) : W.cell? ⟨bl, 1, none⟩ = some (.int .i64 S.cr) := by rw [cell_of_row W bl 1 _ _ _ h.root]; rfl
theorem Lo.bel (h : Lo w bl bf bc S W) : Below w.heap.size w W := h.fo.bel
theorem Lo.ptr2 (h : Lo w bl bf bc S W) : W.cell? ⟨bf, 0, none⟩ = some (.pointer (some ⟨bc, 0, none⟩)) := h.fo.cells.1
theorem Lc.refl (bl bf bc : Nat) (W : World) : Lc bl bf bc bf bc W W := ⟨Nat.le_refl _, fun _ _ _ _ _ => rfl, .inl ⟨rfl, rfl⟩⟩
theorem Lc.of_below (hb : Below W.heap.size W W') : Lc bl bf bc bf bc W W' := ⟨hb.size, fun j hj _ _ _ => hb.block j hj, .inl ⟨rfl, rfl⟩⟩
theorem Lc.trans {W2 : World} {bf1 bc1 bf2 bc2 : Nat} (h : Lc bl bf bc bf1 bc1 W W') (h' : Lc bl bf1 bc1 bf2 bc2 W' W2) : Lc bl bf bc bf2 bc2 W W2 := by
  refine ⟨Nat.le_trans h.size h'.size, fun j hj a b c => ?_, ?_⟩
  · have := h.size
    rw [h'.old j (by omega) a (by rcases h.new with z | z <;> omega) (by rcases h.new with z | z <;> omega), h.old j hj a b c]
  · have := h.size
    rcases h'.new with z | z
    · rcases h.new with y | y
      · exact .inl ⟨z.1.trans y.1, z.2.trans y.2⟩
      · exact .inr ⟨by omega, by omega⟩
    · exact .inr ⟨by omega, by omega⟩
/-- a row of the law's own stays, and stays apart -/
theorem Lc.row {bf' bc' g : Nat} {o : Obj} (h : Lc bl bf bc bf' bc' W W') (hr : W.heap[g]? = some o) (hn : g ≠ bl ∧ g ≠ bf ∧ g ≠ bc) : W'.heap[g]? = some o ∧ (g ≠ bl ∧ g ≠ bf' ∧ g ≠ bc') := by
  have hl := (Array.getElem?_eq_some_iff.1 hr).1
  refine ⟨by rw [h.old g hl hn.1 hn.2.1 hn.2.2]; exact hr, hn.1, ?_, ?_⟩
  · rcases h.new with z | z <;> omega
  · rcases h.new with z | z <;> omega
theorem Fo.fmut {k' : Img} (hl : Lo w bl bf bc S W) (hf : Fo w bf bc S.now k' S.last W') (hm : ∃ c, Mut W W' bc c 57) : Lo w bl bf bc { S with disk := k' } W' ∧ Lc bl bf bc bf bc W W' := by
  obtain ⟨c, hm⟩ := hm
  exact ⟨⟨hf, by rw [hm.old bl hl.lt hl.nc]; exact hl.root, hl.l0, hl.nf, hl.nc⟩, hm.size, fun j hj _ _ hc => hm.old j hj hc, .inl ⟨rfl, rfl⟩⟩
set_option maxHeartbeats 1000000 in
set_option maxRecDepth 100000 in
theorem lNew_any (w : World) {W : World} (hb : Below w.heap.size w W) : Calls Tryz.prog 14 #[] W fun e w' => ∃ bl bf bc, e = .returned (.pointer (some ⟨bl, 0, none⟩)) ∧ W.heap.size ≤ bl ∧ W.heap.size ≤ bf ∧ W.heap.size ≤ bc ∧ Lo w bl bf bc Lv.new w' ∧ Below W.heap.size W w' := by
  have hF := hide (Fo.new w hb)
  have hwW := hb.size
  go_enter Tryz.func14, Tryz.ntmps14
  go_wp2_with fail
  refine (unhide hF).mono ?_
  rintro e w1 ⟨bf, bc, rfl, h1, h2, h3, b1⟩
  have F1 := hide h3
  have B1 := hide b1
  clear h3 b1 hF
  go_wp2_with fail
  go_ret
  have hc := (unhide F1).cells
  refine ⟨_, bf, bc, rfl, (unhide B1).size, h1, h2, ⟨(unhide F1).call ((Below.refl _ w1).alloc (Nat.le_refl _) _), heap_alloc_last _ _, Nat.le_trans hwW (unhide B1).size, by omega, by omega⟩, (unhide B1).alloc (unhide B1).size _⟩
set_option maxHeartbeats 1000000 in
set_option maxRecDepth 100000 in
theorem lWrite_any (h : Lo w bl bf bc S W) (b : Int) : Calls Tryz.prog 38 #[.pointer (some ⟨bl, 0, none⟩), .int .i64 b] W fun e w' => e = .returned (.int .i64 (if Img.inB b = true then 0 else 1)) ∧ Lo w bl bf bc { S with disk := Img.write S.now S.disk b } w' ∧ Lc bl bf bc bf bc W w' := by
  have c1 := h.ptr
  have c2 := h.ptr2
  have H := hide h
  have C := hide (h.fo.write b)
  clear h
  cases hb : Img.inB b
  · rw [hb] at C
    go_enter Tryz.func38, Tryz.ntmps38
    go_wp2_with fail
    refine (unhide C).mono ?_
    rintro e w' ⟨rfl, hf, hm⟩
    have R := hide (Fo.fmut (unhide H) hf hm)
    clear hf hm C c1 c2
    go_wp2_with fail
    go_ret
    exact ⟨rfl, (unhide R).1, (unhide R).2⟩
  · rw [hb] at C
    go_enter Tryz.func38, Tryz.ntmps38
    go_wp2_with fail
    refine (unhide C).mono ?_
    rintro e w' ⟨rfl, hf, hm⟩
    have R := hide (Fo.fmut (unhide H) hf hm)
    clear hf hm C c1 c2
    go_wp2_with fail
    go_ret
    exact ⟨rfl, (unhide R).1, (unhide R).2⟩
theorem Fo.dsk {m k : Img} {last : Int} (h : Fo w bf bc m k last W) : Calls Tryz.prog 18 #[.pointer (some ⟨bc, 0, none⟩)] W fun e w' => (∃ ds, e = .returned (.agg ds) ∧ IsImg ds k) ∧ Below W.heap.size W w' := by
  obtain ⟨cs, ds, f⟩ := h.it
  refine (disk_any bc cs ds m k f.now f.disk W f.row).mono ?_
  rintro e w' ⟨rfl, b⟩
  exact ⟨⟨ds, rfl, f.disk⟩, b⟩
theorem lost_all (a b c : Int) : (#[.int .i64 a, .int .i64 b, .int .i64 c] : Array Value).all (·.oneCell') = true := by kernel_rfl
theorem life_row0 (a : Value) (b c d e v : Value) : (#[a, b, c, d, e] : Array Value).setIfInBounds 0 v = #[v, b, c, d, e] := rfl
theorem life_row1 (a : Value) (b c d e v : Value) : (#[a, b, c, d, e] : Array Value).setIfInBounds 1 v = #[a, v, c, d, e] := rfl
theorem life_row2 (a b c d e x y z : Value) : splice #[a, b, c, d, e] 2 #[x, y, z] = #[a, b, x, y, z] := rfl
set_option maxHeartbeats 4000000 in
set_option maxRecDepth 100000 in
theorem lCrash_any (h : Lo w bl bf bc S W) (hk : S.disk.check = 0) (hcr : 0 ≤ S.cr ∧ S.cr < 4611686018427387904) : Calls Tryz.prog 39 #[.pointer (some ⟨bl, 0, none⟩)] W fun e w' => e = .returned (.int .i64 0) ∧ ∃ bf' bc', Lo w bl bf' bc' S.crash w' ∧ Lc bl bf bc bf' bc' W w' := by
  have z := zero_img.1
  have bz := build_img
  have c1 := h.ptr
  have c2 := h.ptr2
  have H := hide h
  have C := hide h.fo.dsk
  have HK := hide hk
  clear h hk
  go_enter Tryz.func39, Tryz.ntmps39
  go_wp2_with fail
  refine (unhide C).mono ?_
  rintro e w1 ⟨⟨ds, rfl, hds⟩, b1⟩
  have M := hide (mend_any ds S.disk hds w1)
  have B1 := hide b1
  clear b1 C c1 c2
  go_wp2_with fail
  refine (unhide M).mono ?_
  rintro e w3 ⟨hme, b3⟩
  have B2 := hide ((unhide B1).trans (b3.mono (unhide B1).size))
  have hme2 : ∃ c, IsImg c (Img.mend S.disk) ∧ e = .returned (.tuple #[.agg c, .agg (lostA (Img.lostF S.disk : Nat) (Img.lostC S.disk : Nat) (Img.lostD S.disk : Nat)), .int .i64 0]) := by
    rcases hme with ⟨_, c, i, e⟩ | ⟨z, _⟩
    · exact ⟨c, i, e⟩
    · exact absurd (unhide HK) z
  clear hme b3 M B1
  obtain ⟨c3, i3, rfl⟩ := hme2
  have z3 := i3.size
  have I3 := hide i3
  have hall := i3.all
  have hzs := zero_size i3
  clear i3
  unfold lostA
  obtain ⟨nf, ef⟩ : ∃ n : Int, n = (Img.lostF S.disk : Nat) := ⟨_, rfl⟩
  obtain ⟨nc, ec⟩ : ∃ n : Int, n = (Img.lostC S.disk : Nat) := ⟨_, rfl⟩
  obtain ⟨nd, ed⟩ : ∃ n : Int, n = (Img.lostD S.disk : Nat) := ⟨_, rfl⟩
  rw [← ef, ← ec, ← ed]
  have EF := hide ef
  have EC := hide ec
  have ED := hide ed
  clear ef ec ed
  have B3 := hide (By.start w3)
  have B4 := hide ((unhide B3).pair c3 (.int .i64 nf) (.int .i64 nc) (.int .i64 nd))
  have T2 := two2 w3 c3
  have s1 := hide T2.r0
  have c0 := T2.cells 0 (by omega)
  have c1 := T2.cells 1 (by omega)
  have c2 := T2.cells 2 (by omega)
  have fz := T2.fz
  clear T2 B3
  go_upto_region 4 with (have hx := unhide s1; refine wpList_store_row rfl 44 _ _ rfl w3.heap.size c3 rfl rfl 44 zeroCells hx (img_info z3) (hzs) (hall) ?_; clear hx s1; generalize ((w3.alloc (.cells zeroCells 44)).alloc (.cells #[.int .i64 0, .int .i64 0, .int .i64 0] 48)).setRow w3.heap.size c3 = Yw3 at B4 c0 c1 c2 fz ⊢)
  generalize ((Yw3.setCell ⟨w3.heap.size + 1, 0, none⟩ (.int .i64 nf)).setCell ⟨w3.heap.size + 1, 1, none⟩ (.int .i64 nc)).setCell ⟨w3.heap.size + 1, 2, none⟩ (.int .i64 nd) = X4 at B4 ⊢
  clear c0 c1 c2 fz
  have r3 := hide ((unhide B4).row (w3.heap.size, c3, 44) (by simp))
  have r4 := hide ((unhide B4).row (w3.heap.size + 1, #[.int .i64 nf, .int .i64 nc, .int .i64 nd], 48) (by simp))
  have O := hide (sOf_any c3 (Img.mend S.disk) (unhide I3) (Img.mend_check (unhide HK)) X4)
  go_wp2_with (have hx := unhide r3; refine wpList_load_row rfl 44 _ rfl w3.heap.size rfl 44 c3 (0, 0) _ hx img_under rfl (img_info z3) ?_; clear hx r3)
  refine (unhide O).mono ?_
  rintro e w5 ⟨⟨bf', bc', last', rfl, hbf, hbc, fl, bb, hlast, hmax⟩, b5⟩
  have hl5 : last' = Img.top (Img.mend S.disk) := hlast.trans (Img.top_is (Img.mend_check (unhide HK)) hmax.1 hmax.2)
  have B45 := hide ((unhide B4).below.trans (b5.mono (unhide B4).below.size))
  have B5 := hide ((unhide B2).trans ((unhide B45).mono (unhide B2).size))
  have r5 := hide (show w5.heap[w3.heap.size + 1]? = some (.cells #[.int .i64 nf, .int .i64 nc, .int .i64 nd] 48) by rw [b5.block _ (Array.getElem?_eq_some_iff.1 (unhide r4)).1]; exact unhide r4)
  have L5 := hide ((unhide H).call (unhide B5))
  have F5 := hide fl
  have n4 : w3.heap.size + 1 ≠ bl := by have := (unhide H).lt; have := (unhide B2).size; omega
  have NB := hide (show bl < bf' ∧ bl < bc' ∧ W.heap.size ≤ bf' ∧ W.heap.size ≤ bc' by have := (unhide H).lt; have := (unhide B2).size; have := (unhide B4).below.size; omega)
  have q0 := (unhide L5).ptr
  have q1 := (unhide L5).crs
  have fz := fun i => frozen_of_row _ _ i _ _ (unhide L5).root
  have RT := hide (unhide L5).root
  clear b5 fl hbf hbc hlast hmax O r4 B45 B4
  unfold lvA at RT
  have RT1 := hide (box_set (unhide RT) 0 (.pointer (some ⟨bf', 0, none⟩)))
  rw [life_row0] at RT1
  have q2 : (w5.setCell ⟨bl, 0, none⟩ (.pointer (some ⟨bf', 0, none⟩))).cell? ⟨bl, 1, none⟩ = some (.int .i64 S.cr) := by rw [cell_of_row _ _ _ _ _ _ (unhide RT1)]; rfl
  have fz1 := fun i => frozen_of_row _ _ i _ _ (unhide RT1)
  have M1 := hide (Mv.set (unhide RT) 0 (.pointer (some ⟨bf', 0, none⟩)))
  have hadd : -9223372036854775808 ≤ S.cr + 1 ∧ S.cr + 1 ≤ 9223372036854775807 := by omega
  go_upto_region 5 with fail
  try simp only [Act.put]
  generalize w5.setCell ⟨bl, 0, none⟩ (.pointer (some ⟨bf', 0, none⟩)) = X6 at RT1 q2 fz1 M1 ⊢
  have RT2 := hide (box_set (unhide RT1) 1 (.int .i64 (S.cr + 1)))
  rw [life_row1] at RT2
  have M2 := hide (Mv.set (unhide RT1) 1 (.int .i64 (S.cr + 1)))
  clear q0 q1 fz
  go_upto_region 6 with fail
  try simp only [Act.put]
  generalize X6.setCell ⟨bl, 1, none⟩ (.int .i64 (S.cr + 1)) = X7 at RT2 M2 ⊢
  have M12 := hide ((unhide M1).trans (unhide M2))
  have r7 := hide (show X7.heap[w3.heap.size + 1]? = some (.cells #[.int .i64 nf, .int .i64 nc, .int .i64 nd] 48) by rw [(unhide M12).old _ (Array.getElem?_eq_some_iff.1 (unhide r5)).1 n4]; exact unhide r5)
  have M3 := hide (Mv.row' (unhide RT2) #[.pointer (some ⟨bf', 0, none⟩), .int .i64 (S.cr + 1), .int .i64 nf, .int .i64 nc, .int .i64 nd])
  clear q2 fz1 r5
  go_wp2_with (first | (have hx := unhide r7; refine wpList_load_row rfl 48 _ rfl (w3.heap.size + 1) rfl 48 #[.int .i64 nf, .int .i64 nc, .int .i64 nd] (0, 0) _ hx lost_under rfl lost_info ?_; clear hx r7) | (have hx := unhide RT2; refine wpList_store_part rfl 48 _ _ rfl bl 2 #[.int .i64 nf, .int .i64 nc, .int .i64 nd] rfl rfl 50 _ hx lost_info (by simp) (lost_all nf nc nd) ?_; clear hx; rw [life_row2]))
  generalize X7.setRow bl #[.pointer (some ⟨bf', 0, none⟩), .int .i64 (S.cr + 1), .int .i64 nf, .int .i64 nc, .int .i64 nd] = X8 at M3 ⊢
  go_ret
  have MV := (unhide M12).trans (unhide M3)
  have hbl := (unhide H).lt
  have hf := (unhide F5).flt
  have hc := (unhide F5).clt
  refine ⟨rfl, bf', bc', ⟨⟨⟨c3, c3, ?_⟩, ?_, ?_, ?_⟩, ?_, (unhide H).l0, by have := (unhide NB).1; omega, by have := (unhide NB).2.1; omega⟩, ?_, fun j hj h1 _ _ => ?_, .inr ⟨(unhide NB).2.2.1, (unhide NB).2.2.2⟩⟩
  · have := (unhide F5).keep (MV.old _ hf (by have := (unhide NB).1; omega)) (MV.old _ hc (by have := (unhide NB).2.1; omega))
    rw [hl5] at this; exact this
  · exact (unhide L5).bel.trans (MV.below _ (unhide H).l0 (unhide L5).bel.size)
  · have := (unhide H).l0; have := (unhide NB).1; omega
  · have := (unhide H).l0; have := (unhide NB).2.1; omega
  · have := MV.row
    rw [unhide EF, unhide EC, unhide ED] at this
    exact this
  · exact Nat.le_trans (unhide B5).size MV.size
  · rw [MV.old j (Nat.lt_of_lt_of_le hj (unhide B5).size) h1, (unhide B5).block j hj]
end
end Go.Proofs.YtmbpckmpnnmnmacGreat
namespace Go.Proofs.YtmbpckmpnnmnmacGreat
open Go.RowKit
open Idl (Stp chk stpA)
section
variable {w W W' : World} {bl bf bc : Nat} {S : Lv}
theorem Lv.step_seven (S : Lv) {x : Stp} (h : x.kind = 7) : S.step x = { S with disk := Img.write S.now S.disk x.p } ∧ S.code x = (if Img.inB x.p = true then 0 else 1) := by
  unfold Lv.step Lv.code Img.lnow Img.ldisk Img.llast Img.lcode
  rw [h]; exact ⟨rfl, rfl⟩
theorem Lv.step_eight (S : Lv) {x : Stp} (h : x.kind = 8) : S.step x = { S with disk := (Img.syn S.now 8 S.disk).2 } ∧ S.code x = 0 := by
  unfold Lv.step Lv.code Img.lnow Img.ldisk Img.llast Img.lcode
  rw [h]; exact ⟨rfl, rfl⟩
theorem Lv.step_nine (S : Lv) {x : Stp} (h : x.kind = 9) : S.step x = S.crash ∧ S.code x = 0 := by
  unfold Lv.step Lv.code Img.lcode
  rw [if_pos h, if_pos h]; exact ⟨rfl, rfl⟩
theorem Lv.step_file (S : Lv) {x : Stp} (h : x.kind ≠ 7 ∧ x.kind ≠ 8 ∧ x.kind ≠ 9) : S.step x = { S with now := Img.sstep S.now S.disk S.last x, last := Img.slast S.now S.disk S.last x } ∧ S.code x = Img.scode S.now S.disk x := by
  obtain ⟨h1, h2, h3⟩ := h
  unfold Lv.step Lv.code Img.lnow Img.ldisk Img.llast Img.lcode
  simp only [if_neg h1, if_neg h2, if_neg h3, if_neg (show ¬ (x.kind = 7 ∨ x.kind = 8) by omega)]
  exact ⟨trivial, trivial⟩
theorem Op1.ld_files {o : Oper} {ρ : Operand → Value} (x : Operand) (ho : o.op = .load 46 x) {g o0 : Nat} (hx : ρ x = .pointer (some ⟨g, o0, none⟩)) {p : Option Addr} (w : World) (h : w.cell? ⟨g, o0, none⟩ = some (.pointer p)) : (execOp ρ o).run Tryz.prog w = .ok (.value (.pointer p)) w := by
  unfold execOp
  rw [ho]
  go_simp
theorem Lc.below {B : World} {bf' bc' : Nat} (hb : Below W.heap.size W B) (h : Lc bl bf bc bf' bc' B W') : Lc bl bf bc bf' bc' W W' := (Lc.of_below hb).trans h
theorem stp_info7 : (Tryz.prog.info? 31).map (·.size) = some 7 := by kernel_rfl
theorem stp_under7 : Tryz.prog.underlying 31 = some (.struct (Tryz.prog.fieldsOf 31)) := by kernel_rfl
set_option maxHeartbeats 2000000 in
set_option maxRecDepth 100000 in
theorem lStep_none (h : Lo w bl bf bc S W) {n : Nat} (hO : S.Ok n) (hn : n ≤ 1000000) (x : Stp) (hx : x.kind = 7 ∨ x.kind = 8 ∨ x.kind = 9) :
    Calls Tryz.prog 16 #[.pointer (some ⟨bl, 0, none⟩), .agg (stpA x)] W fun e w' => e = .returned (.int .i64 (S.code x)) ∧ ∃ bf' bc', Lo w bl bf' bc' (S.step x) w' ∧ Lc bl bf bc bf' bc' W w' := by
  have hB : Below W.heap.size W (W.alloc (.cells (stpA x) 31)) := (Below.refl _ W).alloc (Nat.le_refl _) _
  have L1 := hide (h.call hB)
  have BB := hide hB
  have r1 : (W.alloc (.cells (stpA x) 31)).heap[W.heap.size]? = some (.cells (stpA x) 31) := heap_alloc_last _ _
  have e0 : (W.alloc (.cells (stpA x) 31)).cell? ⟨W.heap.size, 0, none⟩ = some (.int .i64 x.kind) := by rw [cell_of_row _ _ _ _ _ _ r1]; rfl
  have e3 : (W.alloc (.cells (stpA x) 31)).cell? ⟨W.heap.size, 3, none⟩ = some (.int .i64 x.p) := by rw [cell_of_row _ _ _ _ _ _ r1]; rfl
  have c1 := (unhide L1).ptr
  have c2 := (unhide L1).ptr2
  have C7 := hide (lWrite_any (unhide L1) x.p)
  have C8 := hide (unhide L1).fo.sync
  have C9 := hide (lCrash_any (unhide L1) hO.hold.ok ⟨hO.cr0, by have := hO.crn; omega⟩)
  clear h hB r1 hO hn
  obtain ⟨kind, dir, toDir, p, name, tu, text⟩ := x
  simp only at hx
  rcases hx with rfl | rfl | rfl
  · rw [(S.step_seven (x := ⟨7, dir, toDir, p, name, tu, text⟩) rfl).1, (S.step_seven (x := ⟨7, dir, toDir, p, name, tu, text⟩) rfl).2]
    simp only [stpA] at L1 BB e0 e3 c1 c2 C7 C8 C9 ⊢
    generalize (if Img.inB p = true then (0 : Int) else 1) = cd at C7 ⊢
    go_enter Tryz.func16, Tryz.ntmps16
    go_wp2_with fail
    refine (unhide C7).mono ?_
    rintro e w' ⟨rfl, h1, h2⟩
    have R := hide (And.intro h1 (h2.below (unhide BB)))
    clear h1 h2
    go_wp2_with fail
    go_ret
    exact ⟨rfl, bf, bc, (unhide R).1, (unhide R).2⟩
  · rw [(S.step_eight (x := ⟨8, dir, toDir, p, name, tu, text⟩) rfl).1, (S.step_eight (x := ⟨8, dir, toDir, p, name, tu, text⟩) rfl).2]
    simp only [stpA] at L1 BB e0 e3 c1 c2 C7 C8 C9
    go_enter Tryz.func16, Tryz.ntmps16
    go_wp2_with fail
    refine (unhide C8).mono ?_
    rintro e w' ⟨rfl, h1, h2⟩
    have R0 := Fo.fmut (unhide L1) h1 h2
    have R := hide (And.intro R0.1 (R0.2.below (unhide BB)))
    clear h1 h2 R0
    go_wp2_with fail
    go_ret
    exact ⟨rfl, bf, bc, (unhide R).1, (unhide R).2⟩
  · rw [(S.step_nine (x := ⟨9, dir, toDir, p, name, tu, text⟩) rfl).1, (S.step_nine (x := ⟨9, dir, toDir, p, name, tu, text⟩) rfl).2]
    simp only [stpA] at L1 BB e0 e3 c1 c2 C7 C8 C9
    go_enter Tryz.func16, Tryz.ntmps16
    go_wp2_with fail
    refine (unhide C9).mono ?_
    rintro e w' ⟨rfl, bf', bc', h1, h2⟩
    have R := hide (And.intro h1 (h2.below (unhide BB)))
    clear h1 h2
    go_wp2_with fail
    go_ret
    exact ⟨rfl, bf', bc', (unhide R).1, (unhide R).2⟩
set_option maxHeartbeats 2000000 in
set_option maxRecDepth 100000 in
theorem lStep_file (h : Lo w bl bf bc S W) {n : Nat} (hO : S.Ok n) (hn : n ≤ 1000000) (x : Stp) (h1 : x.name.size ≤ maxLen) (h2 : x.to.size ≤ maxLen) (h3 : x.text.size ≤ maxLen) (hx : x.kind ≠ 7 ∧ x.kind ≠ 8 ∧ x.kind ≠ 9) :
    Calls Tryz.prog 16 #[.pointer (some ⟨bl, 0, none⟩), .agg (stpA x)] W fun e w' => e = .returned (.int .i64 (S.code x)) ∧ ∃ bf' bc', Lo w bl bf' bc' (S.step x) w' ∧ Lc bl bf bc bf' bc' W w' := by
  have hB : Below W.heap.size W (W.alloc (.cells (stpA x) 31)).drew := ((Below.refl _ W).alloc (Nat.le_refl _) _).drew
  have L1 := hide (h.call hB)
  have BB := hide hB
  have hl := h.lt
  have r1 : (W.alloc (.cells (stpA x) 31)).heap[W.heap.size]? = some (.cells (stpA x) 31) := heap_alloc_last _ _
  have R1 := hide (show (W.alloc (.cells (stpA x) 31)).drew.heap[W.heap.size]? = some (.cells (stpA x) 31) from r1)
  have e0 : (W.alloc (.cells (stpA x) 31)).cell? ⟨W.heap.size, 0, none⟩ = some (.int .i64 x.kind) := by rw [cell_of_row _ _ _ _ _ _ r1]; rfl
  have k7 : (x.kind == 7) = false := by simpa using hx.1
  have k8 : (x.kind == 8) = false := by simpa using hx.2.1
  have k9 : (x.kind == 9) = false := by simpa using hx.2.2
  have NX := hide (show W.heap.size ≠ bl ∧ W.heap.size ≠ bf ∧ W.heap.size ≠ bc by have := h.fo.cells.2.1; have := h.fo.cells.2.2.1; omega)
  have CF := hide ((unhide L1).fo.step hO.hold.good (by have := hO.few; omega) x h1 h2 h3)
  rw [(S.step_file hx).1, (S.step_file hx).2]
  clear h hB r1 hO hn h1 h2 h3 hx
  go_enter Tryz.func16, Tryz.ntmps16
  go_upto_region 9 with fail
  refine wp_region_held_drew (S := fun V => V.cell? ⟨bl, 0, none⟩ = some (.pointer (some ⟨bf, 0, none⟩)) ∧ V.heap[W.heap.size]? = some (.cells (stpA x) 31)) (by kernel_rfl) (⟨(unhide L1).ptr, unhide R1⟩) (fun hS => ?_)
  refine wpAnyH_take (i := 0) (oi := { dst := some 27, op := Op.move (Operand.tmp 0), type := 25, pos := "life.go:37", after := #[], guard := none }) (v := .pointer (some ⟨bl, 0, none⟩)) rfl (by kernel_rfl) (by kernel_rfl) (by kernel_rfl) (fun _ _ _ h => h) (Or.inl ⟨by kernel_rfl, fun W h => (by first | kernel_rfl | go_simp)⟩) hS ?_
  try simp only [Act.put, List.setIfInBounds_toArray, List.set_cons_zero, List.set_cons_succ]
  refine wpAnyH_take (i := 1) (oi := { dst := some 28, op := Op.nilCheck (Operand.tmp 27), type := 0, pos := "life.go:37", after := #[{ on := 0, ground := Ground.data }], guard := none }) (v := .pointer (some ⟨bl, 0, none⟩)) rfl (by kernel_rfl) (by kernel_rfl) (by kernel_rfl) (fun _ _ _ h => h) (Or.inl ⟨by kernel_rfl, fun W h => (by first | kernel_rfl | go_simp)⟩) hS ?_
  try simp only [Act.put, List.setIfInBounds_toArray, List.set_cons_zero, List.set_cons_succ]
  refine wpAnyH_take (i := 2) (oi := { dst := some 29, op := Op.fieldAddr 50 (Operand.tmp 28) 0, type := 0, pos := "life.go:37", after := #[{ on := 1, ground := Ground.data }], guard := none }) (v := .pointer (some ⟨bl, 0, none⟩)) rfl (by kernel_rfl) (by kernel_rfl) (by kernel_rfl) (fun _ _ _ h => h) (Or.inl ⟨by kernel_rfl, fun W h => (by first | kernel_rfl | go_simp)⟩) hS ?_
  try simp only [Act.put, List.setIfInBounds_toArray, List.set_cons_zero, List.set_cons_succ]
  refine wpAnyH_take (i := 3) (oi := { dst := some 30, op := Op.load 46 (Operand.tmp 29), type := 46, pos := "life.go:37", after := #[{ on := 2, ground := Ground.data }], guard := none }) (v := .pointer (some ⟨bf, 0, none⟩)) rfl (by kernel_rfl) (by kernel_rfl) (by kernel_rfl) (fun _ _ _ h => h) (Or.inl ⟨by kernel_rfl, fun W h => Op1.ld_files (.tmp 29) (by kernel_rfl) (by kernel_rfl) W h.1⟩) hS ?_
  try simp only [Act.put, List.setIfInBounds_toArray, List.set_cons_zero, List.set_cons_succ]
  refine wpAnyH_take (i := 4) (oi := { dst := some 31, op := Op.load 31 (Operand.tmp 3), type := 31, pos := "life.go:37", after := #[], guard := none }) (v := .agg (stpA x)) rfl (by kernel_rfl) (by kernel_rfl) (by kernel_rfl) (fun _ _ _ h => h) (Or.inl ⟨by kernel_rfl, fun W h => run_exec_load_whole 31 (.tmp 3) (by kernel_rfl) _ (by kernel_rfl) W 31 (stpA x) (0, 0) _ h.2 stp_under7 rfl stp_info7⟩) hS ?_
  try simp only [Act.put, List.setIfInBounds_toArray, List.set_cons_zero, List.set_cons_succ]
  refine wpAnyH_ready (rs := [5]) (by kernel_rfl) (by simp) ?_
  refine AllReadyH.cons (o := { dst := some 32, op := Op.call { callee := Callee.value (Operand.func 40), args := #[Operand.tmp 30, Operand.tmp 31], argTypes := #[46, 31] }, type := 3, pos := "life.go:37", after := #[{ on := 3, ground := Ground.data }, { on := 4, ground := Ground.data }], guard := none }) rfl (fun K hK => ?_) AllReadyH.nil
  rw [if_pos (by kernel_rfl)]
  go_simp
  refine (unhide CF).mono ?_
  rintro e w2 ⟨rfl, hf, hc⟩
  have rl : w2.heap[bl]? = some (.cells (lvA bf S) 50) := by rw [hc.block bl (unhide L1).lt (fun z => by rcases z with z | z; exact (unhide L1).nf z; exact (unhide L1).nc z)]; exact (unhide L1).root
  have rb : w2.heap[W.heap.size]? = some (.cells (stpA x) 31) := by rw [hc.block _ (Array.getElem?_eq_some_iff.1 (unhide R1)).1 (fun z => by rcases z with z | z; exact (unhide NX).2.1 z; exact (unhide NX).2.2 z)]; exact unhide R1
  have S2 : w2.cell? ⟨bl, 0, none⟩ = some (.pointer (some ⟨bf, 0, none⟩)) ∧ w2.heap[W.heap.size]? = some (.cells (stpA x) 31) := ⟨by rw [cell_of_row _ _ _ _ _ _ rl]; rfl, rb⟩
  have FF := hide (show Lo w bl bf bc { S with now := Img.sstep S.now S.disk S.last x, last := Img.slast S.now S.disk S.last x } w2 ∧ Lc bl bf bc bf bc W w2 from ⟨⟨hf, rl, (unhide L1).l0, (unhide L1).nf, (unhide L1).nc⟩, Nat.le_trans (unhide BB).size hc.size, fun j hj a b c => by rw [hc.block j (Nat.lt_of_lt_of_le hj (unhide BB).size) (fun z => by rcases z with z | z; exact b z; exact c z), (unhide BB).block j hj], .inl ⟨rfl, rfl⟩⟩)
  clear hf hc rl rb
  go_wp2_with fail
  refine hK.out _ _ (S2) (fun hS2 => ?_)
  clear hK K
  try simp only [Act.put, List.setIfInBounds_toArray, List.set_cons_zero, List.set_cons_succ]
  refine wpAnyH_take (i := 6) (oi := { dst := some 4, op := Op.assign (Operand.tmp 32), type := 3, pos := "life.go:37", after := #[{ on := 5, ground := Ground.data }, { on := 5, ground := Ground.chain }, { on := 0, ground := Ground.phase }, { on := 1, ground := Ground.phase }, { on := 2, ground := Ground.phase }, { on := 3, ground := Ground.phase }, { on := 4, ground := Ground.phase }, { on := 5, ground := Ground.phase }], guard := none }) (v := .int .i64 (Img.scode S.now S.disk x)) rfl (by kernel_rfl) (by kernel_rfl) (by kernel_rfl) (fun _ _ _ h => h) (Or.inl ⟨by kernel_rfl, fun W h => (by first | kernel_rfl | go_simp)⟩) hS2 ?_
  try simp only [Act.put, List.setIfInBounds_toArray, List.set_cons_zero, List.set_cons_succ]
  refine wpAnyH_done (by kernel_rfl) ?_ _
  clear hS hS2
  go_wp2_with fail
  go_ret
  exact ⟨rfl, bf, bc, (unhide FF).1, (unhide FF).2⟩
theorem lStep_any (h : Lo w bl bf bc S W) {n : Nat} (hO : S.Ok n) (hn : n ≤ 1000000) (x : Stp) (h1 : x.name.size ≤ maxLen) (h2 : x.to.size ≤ maxLen) (h3 : x.text.size ≤ maxLen) :
    Calls Tryz.prog 16 #[.pointer (some ⟨bl, 0, none⟩), .agg (stpA x)] W fun e w' => e = .returned (.int .i64 (S.code x)) ∧ ∃ bf' bc', Lo w bl bf' bc' (S.step x) w' ∧ Lc bl bf bc bf' bc' W w' := by
  by_cases hx : x.kind = 7 ∨ x.kind = 8 ∨ x.kind = 9
  · exact lStep_none h hO hn x hx
  · exact lStep_file h hO hn x h1 h2 h3 (by omega)
set_option maxHeartbeats 1000000 in
set_option maxRecDepth 100000 in
theorem lCrashes_any (h : Lo w bl bf bc S W) : Calls Tryz.prog 19 #[.pointer (some ⟨bl, 0, none⟩)] W fun e w' => e = .returned (.int .i64 S.cr) ∧ w' = W := by
  have c1 := h.crs
  clear h
  go_enter Tryz.func19, Tryz.ntmps19
  go_wp2_with fail
  go_ret
  exact ⟨rfl, rfl⟩
set_option maxHeartbeats 1000000 in
set_option maxRecDepth 100000 in
theorem lLost_any (h : Lo w bl bf bc S W) : Calls Tryz.prog 20 #[.pointer (some ⟨bl, 0, none⟩)] W fun e w' => e = .returned (.agg (lostA S.lf S.lc S.ld)) ∧ Below W.heap.size W w' := by
  have hl := h.lt
  have r0 := h.root
  have r1 := hide (show (W.alloc (.cells (lostA 0 0 0) 48)).heap[bl]? = some (.cells (lvA bf S) 50) by rw [Below.heap_alloc _ _ _ hl]; exact r0)
  have s1 := hide (heap_alloc_last W (.cells (lostA 0 0 0) 48))
  have ex : (lvA bf S).extract 2 (2 + 3) = lostA S.lf S.lc S.ld := rfl
  clear h r0
  unfold lostA at s1 r1
  go_enter Tryz.func20, Tryz.ntmps20
  go_wp2_with (first | (have hx := unhide r1; refine wpList_load_part rfl 48 _ rfl bl 2 3 rfl 50 (lvA bf S) _ hx lost_under rfl lost_info (by unfold lvA; simp) ?_; rw [ex]; clear hx r1) | (have hx := unhide s1; refine wpList_store_row rfl 48 _ _ rfl W.heap.size (lostA S.lf S.lc S.ld) rfl rfl 48 _ hx lost_info rfl (lost_all S.lf S.lc S.ld) ?_; clear hx))
  refine bodyPost_ret (v := .agg (lostA S.lf S.lc S.ld)) ?_ rfl ⟨rfl, below_setRow ((Below.refl _ _).alloc (Nat.le_refl _) _) (Nat.le_refl _) _⟩
  exact results_cell_row (P := Tryz.prog) Tryz.results20 _ _ W.heap.size 48 _ (0, 0) _ rfl (setRow_heap _ _ _ _ _ _ (unhide s1)) lost_under rfl lost_info
end
end Go.Proofs.YtmbpckmpnnmnmacGreat
namespace Go.Proofs.YtmbpckmpnnmnmacGreat
open Go.RowKit
open Idl (Stp chk stpA strs belowD one_new one_str)
section
variable {P : Program}
/-- an operation that yields a value and leaves the world as it is -/
theorem wpList_value {ops : Array Oper} {rest : List Oper} {o : Oper} {a : Act} {w : World} {Q : Exit → Act → World → Prop} (hgd : o.guard = none) {v : Value} (h0 : (execOp a.eval o).run P w = .ok (.value v) w)
    (h : wpList P ops Q rest (a.put o.dst v) w) : wpList P ops Q (o :: rest) a w :=
  wpList_plain hgd fun _ hK => by
    unfold Oper.wp
    rw [h0]
    exact hK _ _ h
theorem wpList_value_g {ops : Array Oper} {rest : List Oper} {o : Oper} {a : Act} {w : World} {Q : Exit → Act → World → Prop} (hw : Region.wanted o (yielded ops a.tmps) = true) {v : Value} (h0 : (execOp a.eval o).run P w = .ok (.value v) w)
    (h : wpList P ops Q rest (a.put o.dst v) w) : wpList P ops Q (o :: rest) a w :=
  BigFrame.wpList_want hw fun _ hK => by
    unfold Oper.wp
    rw [h0]
    exact hK _ _ h
end
section
variable {w W W' : World} {bl bf bc : Nat} {S : Lv}
theorem Img.Hold.clean {m k : Img} {last : Int} (h : Img.Hold m k last) : Img.Hold m m last := ⟨h.good, h.good.ex.ok, Img.fit_self h.good.ex.ok, fun n hn hl => h.good.last n hn hl⟩
theorem Lo.clean (h : Lo w bl bf bc S W) (ha : Img.Agree S.now S.disk) : Lo w bl bf bc { S with disk := S.now } W := by
  refine ⟨?_, h.root, h.l0, h.nf, h.nc⟩
  obtain ⟨⟨cs, ds, f⟩, h2, h3, h4⟩ := h.fo
  have e : cs = ds := f.now.agree f.disk ha
  subst e
  exact ⟨⟨cs, cs, f.root, f.row, f.now, f.now, f.ne⟩, h2, h3, h4⟩
theorem Lv.Ok.clean {n : Nat} (h : S.Ok n) : Lv.Ok { S with disk := S.now } n := ⟨h.hold.clean, h.few, h.cr0, h.crn⟩
end
namespace Lif
open Sft (sA sB small)
theorem ix_step {o : Oper} {ρ : Operand → Value} (x y : Operand) (ho : o.op = .indexAddr 22 x y) {g q n c j : Nat} (hx : ρ x = .slice (some ⟨g, q, none⟩) n c) (hy : ρ y = .int .i64 ((j : Nat) : Int)) (hj : j < n) (w : World) : (execOp ρ o).run Tryz.prog w = .ok (.value (.pointer (some ⟨g, q + j * 7, none⟩))) w := by
  have jz : (j : Int) < (n : Int) := by omega
  unfold execOp
  rw [ho]
  go_simp
set_option maxHeartbeats 1000000 in
theorem ld_step {o : Oper} {ρ : Operand → Value} (x : Operand) (ho : o.op = .load 31 x) {g q : Nat} (hx : ρ x = .pointer (some ⟨g, q, none⟩)) (s : Stp) (w : World) (h : ∀ j u, (stpA s)[j]? = some u → w.cell? ⟨g, q + j, none⟩ = some u) : (execOp ρ o).run Tryz.prog w = .ok (.value (.agg (stpA s))) w := by
  obtain ⟨kind, dir, toDir, p, name, tu, text⟩ := s
  have c0 : w.cell? ⟨g, q, none⟩ = some (.int .i64 kind) := h 0 _ rfl
  have c1 : w.cell? ⟨g, q + 1, none⟩ = some (.int .i64 dir) := h 1 _ rfl
  have c2 : w.cell? ⟨g, q + 2, none⟩ = some (.int .i64 toDir) := h 2 _ rfl
  have c3 : w.cell? ⟨g, q + 3, none⟩ = some (.int .i64 p) := h 3 _ rfl
  have c4 : w.cell? ⟨g, q + 4, none⟩ = some (.string name) := h 4 _ rfl
  have c5 : w.cell? ⟨g, q + 5, none⟩ = some (.string tu) := h 5 _ rfl
  have c6 : w.cell? ⟨g, q + 6, none⟩ = some (.string text) := h 6 _ rfl
  clear h
  simp only [stpA]
  unfold execOp
  rw [ho]
  go_simp
def y1 : Stp := ⟨1, 0, 0, 0, sA, Idl.none0, Idl.none0⟩
def y2 : Stp := ⟨8, 0, 0, 0, Idl.none0, Idl.none0, Idl.none0⟩
def y3 : Stp := ⟨1, 0, 0, 0, sB, Idl.none0, Idl.none0⟩
def y4 : Stp := ⟨7, 0, 0, 0, Idl.none0, Idl.none0, Idl.none0⟩
def y5 : Stp := ⟨9, 0, 0, 0, Idl.none0, Idl.none0, Idl.none0⟩
def y6 : Stp := ⟨7, 0, 0, 99, Idl.none0, Idl.none0, Idl.none0⟩
def S1 : Lv := Lv.new.step y1
def S2 : Lv := { S1 with disk := S1.now }
def S3 : Lv := S2.step y3
def S4 : Lv := S3.step y4
def S5 : Lv := S4.step y5
theorem o1 : S1.Ok 1 := Lv.Ok.start.any y1
theorem o2 : S2.Ok 1 := o1.clean
theorem o3 : S3.Ok 2 := o2.any y3
theorem o4 : S4.Ok 3 := o3.any y4
theorem o5 : S5.Ok 4 := o4.any y5
theorem k1 : Lv.new.code y1 = 0 := by kernel_rfl
theorem k2 : S1.code y2 = 0 := by kernel_rfl
theorem k4 : S3.code y4 = 0 := by kernel_rfl
theorem k5 : S4.code y5 = 0 := by kernel_rfl
theorem k6 : S5.code y6 = 1 := by kernel_rfl
theorem k7 : S5.cr = 1 := by kernel_rfl
theorem k8 : S5.lf = 1 := by kernel_rfl
theorem k9 : S5.lc = 0 := by kernel_rfl
theorem k10 : S5.ld = 0 := by kernel_rfl
theorem k11 : Img.snames S5.now 0 = [sA] := by kernel_rfl
theorem synced {S : Lv} {n : Nat} (h : S.Ok n) : S.step y2 = { S with disk := (Img.syn S.now 8 S.disk).2 } ∧ Img.Agree S.now (Img.syn S.now 8 S.disk).2 := ⟨(S.step_eight (x := y2) rfl).1, h.hold.lies.clean h.hold.good.ex⟩
set_option maxHeartbeats 4000000 in
set_option maxRecDepth 100000 in
theorem begun_any (w : World) : Calls Tryz.prog 12 #[] w fun e w' => e = .returned (.bool true) ∧ Below w.heap.size w w' := by
  have s0 : Idl.none0.size ≤ maxLen := small _ (Nat.zero_le _)
  have sa : sA.size ≤ maxLen := small _ (Nat.le_refl _)
  have sb : sB.size ≤ maxLen := small _ (Nat.le_refl _)
  have D1 := hide fun bl bf bc W (r : Lo w bl bf bc Lv.new W) => lStep_any r Lv.Ok.start (by omega) y1 sa s0 s0
  have D2 := hide fun bl bf bc W (r : Lo w bl bf bc S1 W) => lStep_any r o1 (by omega) y2 s0 s0 s0
  have D3 := hide fun bl bf bc W (r : Lo w bl bf bc S2 W) => lStep_any r o2 (by omega) y3 sb s0 s0
  have D4 := hide fun bl bf bc W (r : Lo w bl bf bc S3 W) => lStep_any r o3 (by omega) y4 s0 s0 s0
  have D5 := hide fun bl bf bc W (r : Lo w bl bf bc S4 W) => lStep_any r o4 (by omega) y5 s0 s0 s0
  have D6 := hide fun bl bf bc W (r : Lo w bl bf bc S5 W) => lStep_any r o5 (by omega) y6 s0 s0 s0
  have D7 := hide fun bl bf bc W (r : Lo w bl bf bc S5 W) => r.fo.list o5.hold.good.ex.ok 0
  have D8 := hide fun bl bf bc W (r : Lo w bl bf bc S5 W) => lCrashes_any r
  have D9 := hide fun bl bf bc W (r : Lo w bl bf bc S5 W) => lLost_any r
  have CL := hide fun bl bf bc W (r : Lo w bl bf bc (S1.step y2) W) => show Lo w bl bf bc S2 W by
    rw [(synced o1).1] at r
    exact r.clean (synced o1).2
  rw [k1, show Lv.new.step y1 = S1 from rfl] at D1
  rw [k2] at D2
  rw [show S2.step y3 = S3 from rfl] at D3
  rw [k4, show S3.step y4 = S4 from rfl] at D4
  rw [k5, show S4.step y5 = S5 from rfl] at D5
  rw [k6] at D6
  rw [k11] at D7
  rw [k7] at D8
  rw [k8, k9, k10] at D9
  have QL := eqLost 1 0 0 1 0 0
  unfold lostA at D9 QL
  simp only [stpA, y1, y2, y3, y4, y5, y6, sA, sB, Idl.none0] at D1 D2 D3 D4 D5 D6 D7 CL
  clear s0 sa sb
  generalize S2.code _ = cd3 at D3
  generalize S5.step _ = s6 at D6
  generalize S5 = s5 at D5 D6 D7 D8 D9
  generalize S4 = s4 at D4 D5
  generalize S3 = s3 at D3 D4
  generalize S2 = s2 at D3 CL
  generalize S1.step _ = s1b at D2 CL
  generalize S1 = s1 at D1 D2
  go_enter Tryz.func12, Tryz.ntmps12
  go_wp2_with fail
  refine (lNew_any w (Below.refl _ w)).mono ?_
  rintro e w1 ⟨bl, bf, bc, rfl, _, _, _, h1, _⟩
  have d1 := unhide D1 bl bf bc w1 h1
  clear h1
  go_wp2_with fail
  refine d1.mono ?_
  rintro e w2 ⟨rfl, bf, bc, h2, _⟩
  have d2 := unhide D2 bl bf bc w2 h2
  clear h2 d1
  go_wp2_with fail
  refine d2.mono ?_
  rintro e w3 ⟨rfl, bf, bc, h3, _⟩
  have d3 := unhide D3 bl bf bc w3 (unhide CL bl bf bc w3 h3)
  clear h3 d2
  go_wp2_with fail
  refine d3.mono ?_
  rintro e w4 ⟨rfl, bf, bc, h4, _⟩
  have d4 := unhide D4 bl bf bc w4 h4
  clear h4 d3
  go_wp2_with fail
  refine d4.mono ?_
  rintro e w5 ⟨rfl, bf, bc, h5, _⟩
  have d5 := unhide D5 bl bf bc w5 h5
  clear h5 d4
  go_wp2_with fail
  refine d5.mono ?_
  rintro e w6 ⟨rfl, bf, bc, h6, _⟩
  have H6 := hide h6
  have d7 := unhide D7 bl bf bc w6 h6
  have p6 := h6.ptr
  clear h6 d5
  go_wp2_with fail
  refine d7.mono ?_
  rintro e w8 ⟨v, rfl, ho, h8, b8⟩
  have ho2 : (w8.alloc (.cells #[.string ⟨#[97]⟩] 9)).ownsRow 0 9 1 (.slice (some ⟨w8.heap.size, 0, none⟩) 1 1) ([⟨#[97]⟩] : List ByteArray).length (strs [⟨#[97]⟩]) := ⟨rfl, .inr ⟨w8.heap.size, 1, _, rfl, Nat.zero_le _, heap_alloc_last _ _, Nat.le_refl _, small _ (Nat.le_refl _), rfl, rfl⟩⟩
  have ST := hide (Sft.SameTexts_any (World.ownsRow.alloc ho (.cells #[.string ⟨#[97]⟩] 9)) ho2 (by simp))
  have H8 := hide (((unhide H6).call b8).call ((Below.refl _ _).alloc (Nat.le_refl _) (.cells #[.string ⟨#[97]⟩] 9)))
  clear ho ho2 h8 b8 d7 p6 H6
  go_wp2_with fail
  refine (unhide ST).mono ?_
  rintro e w9 ⟨rfl, b9⟩
  have H9 := hide ((unhide H8).call b9)
  have d8 := unhide D8 bl bf bc w9 (unhide H9)
  have d9 := unhide D9 bl bf bc w9 (unhide H9)
  clear b9 H8 ST
  go_wp2_with fail
  refine d8.mono ?_
  rintro e wq ⟨rfl, e9⟩
  rw [e9]
  clear e9 wq d8
  go_wp2_with fail
  refine d9.mono ?_
  rintro e w10 ⟨rfl, b10⟩
  have d6 := unhide D6 bl bf bc w10 ((unhide H9).call b10)
  clear b10 d9 H9
  go_wp2_with fail
  refine d6.mono ?_
  rintro e w11 ⟨rfl, bf, bc, h11, _⟩
  have B11 := hide h11.bel
  clear h11 d6
  go_wp2_with fail
  go_ret
  exact ⟨rfl, unhide B11⟩
end Lif
end Go.Proofs.YtmbpckmpnnmnmacGreat
namespace Go.Proofs.YtmbpckmpnnmnmacGreat
open Go.RowKit
open Idl (Stp chk stpA)
/-- another condition, that says more, from here on -/
theorem wpAnyH_mono {P : Program} {ops : Array Oper} {Q : Exit → Act → World → Prop} {md : Region.Mode} {S S' : World → Prop} (h : ∀ w, S' w → S w) : ∀ (fuel : Nat) (listed : Array Bool) (a : Act) (w : World), wpAnyH P md ops Q S' fuel listed a w → wpAnyH P md ops Q S fuel listed a w
  | 0, _, _, _, hh => hh
  | fuel + 1, _, _, _, hh => ⟨hh.1, fun i hi => wpOp_mono (fun a' w' h' => ⟨h w' h'.1, wpAnyH_mono h fuel _ a' w' h'.2⟩) (hh.2 i hi)⟩
namespace Lif
theorem ld_img {o : Oper} {ρ : Operand → Value} (x : Operand) (ho : o.op = .load 44 x) {g off : Nat} (hx : ρ x = .pointer (some ⟨g, off, none⟩)) {t : TypeId} {cs vs : Array Value} (w : World)
    (hg : w.heap[g]? = some (.cells cs t (0, 0))) (hn : off + 94 ≤ cs.size) (hv : cs.extract off (off + 94) = vs) : (execOp ρ o).run Tryz.prog w = .ok (.value (.agg vs)) w := by
  subst hv
  unfold execOp
  simp only [ho, hx, Instr.loadAt, Instr.sureAddr, Sem.run_bind, Sem.run_pure, Result.andThen_ok, run_loadVar_part w g off 94 t 44 cs _ hg img_under rfl zero_img.2 hn]
theorem ld_cache {o : Oper} {ρ : Operand → Value} (x : Operand) (ho : o.op = .load 51 x) {g o0 : Nat} (hx : ρ x = .pointer (some ⟨g, o0, none⟩)) {p : Option Addr} (w : World) (h : w.cell? ⟨g, o0, none⟩ = some (.pointer p)) : (execOp ρ o).run Tryz.prog w = .ok (.value (.pointer p)) w := by
  unfold execOp
  rw [ho]
  go_simp
/-- the life's pointers, its images, and a box of the law's own -/
structure Bk (bl bf bc g : Nat) (cs ds c : Array Value) (V : World) : Prop where
  p0 : V.cell? ⟨bl, 0, none⟩ = some (.pointer (some ⟨bf, 0, none⟩))
  p1 : V.cell? ⟨bf, 0, none⟩ = some (.pointer (some ⟨bc, 0, none⟩))
  l0 : bl < V.heap.size
  l1 : bf < V.heap.size
  row : V.heap[bc]? = some (.cells (cs ++ ds) 57)
  box : V.heap[g]? = some (.cells c 44)
theorem Bk.below {bl bf bc g : Nat} {cs ds c : Array Value} {V V' : World} (h : Bk bl bf bc g cs ds c V) (hb : Below V.heap.size V V') : Bk bl bf bc g cs ds c V' :=
  ⟨by rw [hb.cell (p := ⟨bl, 0, none⟩) h.l0]; exact h.p0, by rw [hb.cell (p := ⟨bf, 0, none⟩) h.l1]; exact h.p1, Nat.lt_of_lt_of_le h.l0 hb.size, Nat.lt_of_lt_of_le h.l1 hb.size,
    by rw [hb.block _ (Array.getElem?_eq_some_iff.1 h.row).1]; exact h.row, by rw [hb.block _ (Array.getElem?_eq_some_iff.1 h.box).1]; exact h.box⟩
theorem Bk.of {w W : World} {bl bf bc g : Nat} {S : Lv} {c : Array Value} (h : Lo w bl bf bc S W) (hb : W.heap[g]? = some (.cells c 44)) : ∃ cs ds, Bk bl bf bc g cs ds c W ∧ IsImg cs S.now ∧ IsImg ds S.disk := by
  obtain ⟨cs, ds, f⟩ := h.fo.it
  exact ⟨cs, ds, ⟨h.ptr, h.ptr2, h.lt, f.flt, f.row, hb⟩, f.now, f.disk⟩
end Lif
end Go.Proofs.YtmbpckmpnnmnmacGreat
