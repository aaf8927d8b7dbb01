/-
  What is another image is printed otherwise: plain laws. No Go in here.
-/
import Derived.Test.YtlbgkpibaahglacDoorKa
import Derived.Test.YtlbgkpibaahglacDoorSf
namespace Go.Proofs.YtlbgkpibaahglacDoor
namespace Txt
def dval (l : List UInt8) : Nat := l.foldl (fun a c => a * 10 + (c.toNat - 48)) 0
theorem decDigits_val (u : Nat) : dval (Lib.decDigits u) = u ∧ ∀ c ∈ Lib.decDigits u, 48 ≤ c.toNat ∧ c.toNat ≤ 57 := by
  induction u using Nat.strongRecOn with
  | _ u ih =>
    by_cases h : u < 10
    · rw [Lib.decDigits, dif_pos h]
      have e : (UInt8.ofNat (48 + u)).toNat = 48 + u := by rw [UInt8.toNat_ofNat']; omega
      refine ⟨by simp only [dval, List.foldl_cons, List.foldl_nil]; omega, fun c hc => ?_⟩
      rw [List.mem_singleton] at hc
      subst hc
      omega
    · rw [Lib.decDigits, dif_neg h]
      have e : (UInt8.ofNat (48 + u % 10)).toNat = 48 + u % 10 := by rw [UInt8.toNat_ofNat']; omega
      obtain ⟨h1, h2⟩ := ih (u / 10) (by omega)
      refine ⟨?_, fun c hc => ?_⟩
      · unfold dval at h1 ⊢
        rw [List.foldl_append, h1]
        simp only [List.foldl_cons, List.foldl_nil]
        omega
      · rcases List.mem_append.1 hc with hc | hc
        · exact h2 c hc
        · rw [List.mem_singleton] at hc
          subst hc
          omega
theorem decDigits_inj {a b : Nat} (h : Lib.decDigits a = Lib.decDigits b) : a = b := by rw [← (decDigits_val a).1, h, (decDigits_val b).1]
theorem itoa_mem {n : Int} {c : UInt8} (hc : c ∈ Lib.itoa n) : c = 45 ∨ 48 ≤ c.toNat ∧ c.toNat ≤ 57 := by
  unfold Lib.itoa at hc
  split at hc
  · rcases List.mem_cons.1 hc with h | h
    · exact .inl h
    · exact .inr ((decDigits_val _).2 c h)
  · exact .inr ((decDigits_val _).2 c hc)
theorem itoa_inj {a b : Int} (h : Lib.itoa a = Lib.itoa b) : a = b := by
  unfold Lib.itoa at h
  by_cases ha : a < 0 <;> by_cases hb : b < 0
  · rw [if_pos ha, if_pos hb] at h
    have := decDigits_inj (List.cons.inj h).2
    omega
  · rw [if_pos ha, if_neg hb] at h
    have := (decDigits_val b.toNat).2 45 (by rw [← h]; exact List.mem_cons_self)
    exact absurd this.1 (by decide)
  · rw [if_neg ha, if_pos hb] at h
    have := (decDigits_val a.toNat).2 45 (by rw [h]; exact List.mem_cons_self)
    exact absurd this.1 (by decide)
  · rw [if_neg ha, if_neg hb] at h
    have := decDigits_inj h
    omega
def Clean (w : List UInt8) : Prop := ∀ c ∈ w, c ≠ 10 ∧ c ≠ 32
theorem clean_of {w : List UInt8} (h : ∀ c ∈ w, 33 ≤ c.toNat) : Clean w := fun c hc => ⟨fun e => by have := h c hc; rw [e] at this; exact absurd this (by decide), fun e => by have := h c hc; rw [e] at this; exact absurd this (by decide)⟩
theorem clean_itoa (n : Int) : Clean (Lib.itoa n) := clean_of fun c hc => by
  rcases itoa_mem hc with h | h
  · rw [h]; decide
  · omega
theorem clean_shows (l : List UInt8) : Clean (shows l) := clean_of fun c hc => (shows_vis l c hc).1
theorem clean_name {l : List UInt8} (h : Img.isNmB l = true) : Clean l := clean_of fun c hc => by
  simp only [Img.isNmB, Bool.and_eq_true, List.all_eq_true, decide_eq_true_eq] at h
  have := (h.2 c hc).1
  omega
theorem cut_eq {p q : UInt8} (hp : p = 10 ∨ p = 32) (hq : q = 10 ∨ q = 32) : ∀ {x y X Y : List UInt8}, Clean x → Clean y → x ++ p :: X = y ++ q :: Y → x = y ∧ p = q ∧ X = Y
  | [], [], X, Y, _, _, h => by rw [List.nil_append, List.nil_append] at h; exact ⟨rfl, (List.cons.inj h).1, (List.cons.inj h).2⟩
  | [], c :: y, X, Y, _, hy, h => by
    exfalso
    have e := (List.cons.inj (show p :: X = c :: (y ++ q :: Y) from h)).1
    have := hy c List.mem_cons_self
    rcases hp with e2 | e2 <;> rw [← e, e2] at this
    · exact this.1 rfl
    · exact this.2 rfl
  | c :: x, [], X, Y, hx, _, h => by
    exfalso
    have e := (List.cons.inj (show c :: (x ++ p :: X) = q :: Y from h)).1
    have := hx c List.mem_cons_self
    rcases hq with e2 | e2 <;> rw [e, e2] at this
    · exact this.1 rfl
    · exact this.2 rfl
  | c :: x, d :: y, X, Y, hx, hy, h => by
    have h' : c :: (x ++ p :: X) = d :: (y ++ q :: Y) := h
    obtain ⟨e1, e2, e3⟩ := cut_eq hp hq (fun b hb => hx b (List.mem_cons_of_mem _ hb)) (fun b hb => hy b (List.mem_cons_of_mem _ hb)) (List.cons.inj h').2
    exact ⟨by rw [(List.cons.inj h').1, e1], e2, e3⟩
theorem tailW_form : ∀ r : List (List UInt8), ∃ p X, (p = 10 ∨ p = 32) ∧ tailW r = p :: X
  | [] => ⟨10, [], .inl rfl, rfl⟩
  | _ :: _ => ⟨32, _, .inr rfl, rfl⟩
theorem tail_eq : ∀ {r s : List (List UInt8)} {X Y : List UInt8}, (∀ w ∈ r, Clean w) → (∀ w ∈ s, Clean w) → tailW r ++ X = tailW s ++ Y → r = s ∧ X = Y
  | [], [], X, Y, _, _, h => ⟨rfl, (List.cons.inj h).2⟩
  | [], y :: s, X, Y, _, _, h => by exact absurd (List.cons.inj h).1 (by decide)
  | x :: r, [], X, Y, _, _, h => by exact absurd (List.cons.inj h).1 (by decide)
  | x :: r, y :: s, X, Y, hr, hs, h => by
    have h' : x ++ tailW r ++ X = y ++ tailW s ++ Y := (List.cons.inj h).2
    rw [List.append_assoc, List.append_assoc] at h'
    obtain ⟨p, U, hp, eu⟩ := tailW_form r
    obtain ⟨q, V, hq, ev⟩ := tailW_form s
    rw [eu, ev, List.cons_append, List.cons_append] at h'
    obtain ⟨e1, e2, e3⟩ := cut_eq hp hq (hr x List.mem_cons_self) (hs y List.mem_cons_self) h'
    have h2 : tailW r ++ X = tailW s ++ Y := by rw [eu, ev, List.cons_append, List.cons_append, e2, e3]
    obtain ⟨e4, e5⟩ := tail_eq (fun w hw => hr w (List.mem_cons_of_mem _ hw)) (fun w hw => hs w (List.mem_cons_of_mem _ hw)) h2
    exact ⟨by rw [e1, e4], e5⟩
def CleanL (l : List (List UInt8)) : Prop := l ≠ [] ∧ ∀ w ∈ l, Clean w
theorem line_eq {l k : List (List UInt8)} {X Y : List UInt8} (hl : CleanL l) (hk : CleanL k) (h : line l ++ X = line k ++ Y) : l = k ∧ X = Y := by
  match l, k, hl, hk, h with
  | [], _, hl, _, _ => exact absurd rfl hl.1
  | _ :: _, [], _, hk, _ => exact absurd rfl hk.1
  | x :: r, y :: s, hl, hk, h =>
    have h' : x ++ tailW r ++ X = y ++ tailW s ++ Y := h
    exact tail_eq (r := x :: r) (s := y :: s) hl.2 hk.2 (by show 32 :: (x ++ tailW r ++ X) = 32 :: (y ++ tailW s ++ Y); rw [h'])
theorem line_ne (l : List (List UInt8)) (X : List UInt8) : line l ++ X ≠ [] := by
  match l with
  | [] => exact fun h => by cases h
  | x :: r =>
    obtain ⟨p, U, _, e⟩ := tailW_form r
    intro h
    have := congrArg List.length h
    rw [show line (x :: r) = x ++ tailW r from rfl, e] at this
    simp at this
theorem stream_inj : ∀ {a b : List (List (List UInt8))}, (∀ l ∈ a, CleanL l) → (∀ l ∈ b, CleanL l) → stream a = stream b → a = b
  | [], [], _, _, _ => rfl
  | [], l :: b, _, _, h => absurd h.symm (line_ne l _)
  | l :: a, [], _, _, h => absurd h (line_ne l _)
  | l :: a, k :: b, ha, hb, h => by
    obtain ⟨e1, e2⟩ := line_eq (ha l List.mem_cons_self) (hb k List.mem_cons_self) h
    rw [e1, stream_inj (fun x hx => ha x (List.mem_cons_of_mem _ hx)) (fun x hx => hb x (List.mem_cons_of_mem _ hx)) e2]
section
variable {m k : Img}
theorem mem_lines {l : List (List UInt8)} : l ∈ lines m ↔ (∃ n, n < 8 ∧ m.live n = true ∧ l = inoW m n) ∨ (∃ d s, d < 3 ∧ s < 4 ∧ m.named d s = true ∧ l = entW m d s) ∨ (∃ x, x < 9 ∧ m.of x ≠ 0 ∧ l = datW m x) := by
  unfold lines linesX linesD linesI
  rw [List.mem_append, List.mem_append, mem_upto, mem_upto, mem_upto, or_assoc]
  refine or_congr ?_ (or_congr ?_ ?_)
  · refine exists_congr fun n => and_congr_right fun _ => ?_
    unfold inoL
    cases m.live n <;> simp
  · constructor
    · rintro ⟨d, hd, h⟩
      obtain ⟨s, hs, h⟩ := mem_upto.1 h
      refine ⟨d, s, hd, hs, ?_⟩
      unfold entL at h
      cases e : m.named d s <;> rw [e] at h
      · simp at h
      · exact ⟨rfl, by simpa using h⟩
    · rintro ⟨d, s, hd, hs, e, h⟩
      exact ⟨d, hd, mem_upto.2 ⟨s, hs, by unfold entL; rw [if_pos e, h]; exact List.mem_singleton_self _⟩⟩
  · refine exists_congr fun x => and_congr_right fun _ => ?_
    unfold datL
    by_cases e : m.of x = 0
    · rw [if_pos e]; simp [e]
    · rw [if_neg e]; simp [e]
theorem clean_lines (h : m.check = 0) : ∀ l ∈ lines m, CleanL l := by
  intro l hl
  have cI := clean_itoa
  rcases mem_lines.1 hl with ⟨n, _, _, rfl⟩ | ⟨d, s, hd, hs, hn, rfl⟩ | ⟨x, _, _, rfl⟩
  · refine ⟨by simp [inoW], fun w hw => ?_⟩
    simp only [inoW, List.mem_cons, List.not_mem_nil, or_false] at hw
    rcases hw with rfl | rfl | rfl | rfl | rfl | rfl
    · exact clean_of (by decide)
    all_goals exact cI _
  · have ok := (Img.slot_ok hn).1 ((Img.well_iff.1 h).slot d s hd hs)
    refine ⟨by simp [entW], fun w hw => ?_⟩
    simp only [entW, List.mem_cons, List.not_mem_nil, or_false] at hw
    rcases hw with rfl | rfl | rfl | rfl | rfl | rfl
    · exact clean_of (by decide)
    · exact cI _
    · exact cI _
    · exact clean_name ok.nm
    · exact cI _
    · exact cI _
  · refine ⟨by simp [datW], fun w hw => ?_⟩
    simp only [datW, List.mem_cons, List.not_mem_nil, or_false] at hw
    rcases hw with rfl | rfl | rfl | rfl
    · exact clean_of (by decide)
    · exact cI _
    · exact cI _
    · exact clean_shows _
theorem half_ino (h : ∀ l, l ∈ lines m → l ∈ lines k) {n : Nat} (hn : n < 8) (hl : m.live n = true) : k.live n = true ∧ m.stamp n = k.stamp n ∧ m.links n = k.links n ∧ m.part n 0 = k.part n 0 ∧ m.part n 1 = k.part n 1 := by
  rcases mem_lines.1 (h _ (mem_lines.2 (.inl ⟨n, hn, hl, rfl⟩))) with ⟨j, _, hj, e⟩ | ⟨d, s, _, _, _, e⟩ | ⟨x, _, _, e⟩
  · simp only [inoW, List.cons.injEq, and_true, true_and] at e
    have := itoa_inj e.1
    have : n = j := by omega
    subst this
    exact ⟨hj, itoa_inj e.2.1, itoa_inj e.2.2.1, itoa_inj e.2.2.2.1, itoa_inj e.2.2.2.2⟩
  · exact absurd (List.cons.inj e).1 (by decide)
  · exact absurd (List.cons.inj e).1 (by decide)
theorem half_ent (h : ∀ l, l ∈ lines m → l ∈ lines k) {d s : Nat} (hd : d < 3) (hs : s < 4) (hl : m.named d s = true) : k.named d s = true ∧ (m.name d s).toList = (k.name d s).toList ∧ m.ino d s = k.ino d s ∧ m.est d s = k.est d s := by
  rcases mem_lines.1 (h _ (mem_lines.2 (.inr (.inl ⟨d, s, hd, hs, hl, rfl⟩)))) with ⟨j, _, hj, e⟩ | ⟨d', s', _, _, hj, e⟩ | ⟨x, _, _, e⟩
  · exact absurd (List.cons.inj e).1 (by decide)
  · simp only [entW, List.cons.injEq, and_true, true_and] at e
    have h1 := itoa_inj e.1
    have h2 := itoa_inj e.2.1
    have h1 : d = d' := by omega
    have h2 : s = s' := by omega
    subst h1 h2
    exact ⟨hj, e.2.2.1, itoa_inj e.2.2.2.1, itoa_inj e.2.2.2.2⟩
  · exact absurd (List.cons.inj e).1 (by decide)
theorem half_dat (h : ∀ l, l ∈ lines m → l ∈ lines k) {x : Nat} (hx : x < 9) (hl : m.of x ≠ 0) : k.of x ≠ 0 ∧ m.of x = k.of x ∧ (m.text x).toList = (k.text x).toList := by
  rcases mem_lines.1 (h _ (mem_lines.2 (.inr (.inr ⟨x, hx, hl, rfl⟩)))) with ⟨j, _, hj, e⟩ | ⟨d', s', _, _, hj, e⟩ | ⟨y, _, hj, e⟩
  · exact absurd (List.cons.inj e).1 (by decide)
  · exact absurd (List.cons.inj e).1 (by decide)
  · simp only [datW, List.cons.injEq, and_true, true_and] at e
    have h1 := itoa_inj e.1
    have h1 : x = y := by omega
    subst h1
    exact ⟨hj, itoa_inj e.2.1, shows_inj.1 e.2.2⟩
theorem ba_list {a b : ByteArray} (h : a.toList = b.toList) : a = b := by
  rw [ByteArray.toList_eq, ByteArray.toList_eq] at h
  cases a; cases b
  exact congrArg _ (Array.toList_inj.1 h)
theorem named_empty {d s : Nat} (h : m.named d s = false) : (m.name d s).toList = [] := by
  unfold Img.named at h
  cases e : (m.name d s).toList with
  | nil => rfl
  | cons a r => rw [e] at h; cases h
theorem slot_none (hc : m.check = 0) {d s : Nat} (hd : d < 3) (hs : s < 4) (h : m.named d s = false) : m.ino d s = 0 ∧ m.est d s = 0 := by
  have := (Img.well_iff.1 hc).slot d s hd hs
  unfold Img.checkSlot at this
  rw [if_pos h] at this
  by_cases e : m.ino d s = 0 ∧ m.est d s = 0
  · exact e
  · rw [if_neg e] at this; cases this
theorem ino_none (hc : m.check = 0) {n : Nat} (hn : n < 8) (h : m.live n = false) : m.stamp n = 0 ∧ m.links n = 0 ∧ m.part n 0 = -1 ∧ m.part n 1 = -1 := by
  have := (Img.well_iff.1 hc).inode n hn
  unfold Img.checkInode at this
  rw [if_pos h] at this
  by_cases e : m.free n
  · exact e
  · rw [if_neg e] at this; cases this
theorem part_two {n p : Nat} (hp : p < 2) (h0 : m.part n 0 = k.part n 0) (h1 : m.part n 1 = k.part n 1) : m.part n p = k.part n p := by
  match p, hp with
  | 0, _ => exact h0
  | 1, _ => exact h1
/-- images that may be mended, whose data of none have no text, and that are printed alike, are the same -/
theorem printed_apart (hm : m.check = 0) (hk : k.check = 0) (tm : ∀ x, x < 9 → m.of x = 0 → (m.text x).toList = []) (tk : ∀ x, x < 9 → k.of x = 0 → (k.text x).toList = []) (h : printed m = printed k) : Img.Agree m k := by
  have e := stream_inj (clean_lines hm) (clean_lines hk) h
  have h1 : ∀ l, l ∈ lines m → l ∈ lines k := fun l hl => by rw [← e]; exact hl
  have h2 : ∀ l, l ∈ lines k → l ∈ lines m := fun l hl => by rw [e]; exact hl
  have ino : ∀ n, n < 8 → m.live n = k.live n ∧ m.stamp n = k.stamp n ∧ m.links n = k.links n ∧ m.part n 0 = k.part n 0 ∧ m.part n 1 = k.part n 1 := fun n hn => by
    cases e1 : m.live n
    · cases e2 : k.live n
      · obtain ⟨a, b, c, d⟩ := ino_none hm hn e1
        obtain ⟨a', b', c', d'⟩ := ino_none hk hn e2
        exact ⟨rfl, by omega, by omega, by omega, by omega⟩
      · have := (half_ino h2 hn e2).1
        rw [e1] at this; cases this
    · have := half_ino h1 hn e1
      exact ⟨this.1.symm, this.2⟩
  have ent : ∀ d s, d < 3 → s < 4 → (m.name d s).toList = (k.name d s).toList ∧ m.ino d s = k.ino d s ∧ m.est d s = k.est d s := fun d s hd hs => by
    cases e1 : m.named d s
    · cases e2 : k.named d s
      · obtain ⟨a, b⟩ := slot_none hm hd hs e1
        obtain ⟨a', b'⟩ := slot_none hk hd hs e2
        exact ⟨by rw [named_empty e1, named_empty e2], by omega, by omega⟩
      · have := (half_ent h2 hd hs e2).1
        rw [e1] at this; cases this
    · exact (half_ent h1 hd hs e1).2
  have dat : ∀ x, x < 9 → m.of x = k.of x ∧ (m.text x).toList = (k.text x).toList := fun x hx => by
    by_cases e1 : m.of x = 0
    · by_cases e2 : k.of x = 0
      · exact ⟨by omega, by rw [tm x hx e1, tk x hx e2]⟩
      · exact absurd e1 (half_dat h2 hx e2).1
    · exact (half_dat h1 hx e1).2
  exact ⟨fun n hn => (ino n hn).1, fun n hn => (ino n hn).2.1, fun n hn => (ino n hn).2.2.1, fun n p hn hp => part_two hp (ino n hn).2.2.2.1 (ino n hn).2.2.2.2, fun d s hd hs => ba_list (ent d s hd hs).1, fun d s hd hs => (ent d s hd hs).2.1, fun d s hd hs => (ent d s hd hs).2.2, fun x hx => (dat x hx).1, fun x hx => ba_list (dat x hx).2⟩
theorem printed_same (h : Img.Agree m k) : printed m = printed k := by
  have e : lines m = lines k := by
    unfold lines linesX linesD linesI
    refine congr (congrArg _ (congr (congrArg _ ?_) ?_)) ?_
    · refine upto_congr fun n hn => ?_
      unfold inoL inoW
      rw [h.live n hn, h.stamp n hn, h.links n hn, h.part n 0 hn (by omega), h.part n 1 hn (by omega)]
    · refine upto_congr fun d hd => ?_
      refine upto_congr fun s hs => ?_
      unfold entL entW Img.named
      rw [h.name d s hd hs, h.ino d s hd hs, h.est d s hd hs]
    · refine upto_congr fun x hx => ?_
      unfold datL datW
      rw [h.of x hx, h.text x hx]
  unfold printed
  rw [e]
end
end Txt
end Go.Proofs.YtlbgkpibaahglacDoor
