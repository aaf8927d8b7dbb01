/-
  What each step does tu the reference's tags. No Go in here.
-/
import Derived.Test.YtmlhalhjfcfagabGreatYj
import Derived.Test.YtmlhalhjfcfagabGreatVa
import Derived.BigQuiet
import Derived.Test.YtmlhalhjfcfagabGreatYv
import Derived.Laws.OwnMore
import Derived.Deep.RegionHeld
import Derived.RegionTactic
import Derived.BigRegion
namespace Go.Proofs.YtmlhalhjfcfagabGreat
namespace Idl
theorem lookS_add {S : St} (hI : Inv S) {d : Int} (hd : isD d = true) (s : ByteArray) (n : Nat) (e : Int) (t : ByteArray) : lookS (S.add d.toNat s n) e t = if e = d ∧ t = s then some n else lookS S e t := by
  unfold lookS
  cases he : isD e
  · have : ¬ (e = d ∧ t = s) := fun h => by rw [h.1, hd] at he; cases he
    rw [if_neg this]; rfl
  · simp only [if_true]
    show look (setD S.dir d.toNat (ins (S.dir d.toNat) s n) e.toNat) t = _
    unfold setD
    have h1 := isD_iff.1 he
    have h2 := isD_iff.1 hd
    by_cases c : e = d
    · subst c
      rw [if_pos rfl, ins_look (hI.rise _)]
      by_cases c2 : t = s
      · subst c2; rw [keq_self, if_pos rfl, if_pos ⟨rfl, rfl⟩]
      · rw [keq_false.2 (fun z => c2 z.symm), if_neg (by simp), if_neg (fun z => c2 z.2)]
    · rw [if_neg (by omega), if_neg (fun z => c z.1)]
theorem lookS_drop {S : St} (hI : Inv S) {d : Int} (hd : isD d = true) {s : ByteArray} {n : Nat} (hl : look (S.dir d.toNat) s = some n) (e : Int) (t : ByteArray) : lookS (S.drop d.toNat s) e t = if e = d ∧ t = s then none else lookS S e t := by
  unfold lookS
  cases he : isD e
  · have : ¬ (e = d ∧ t = s) := fun h => by rw [h.1, hd] at he; cases he
    rw [if_neg this]; rfl
  · simp only [if_true]
    show look (setD S.dir d.toNat (del (S.dir d.toNat) s) e.toNat) t = _
    unfold setD
    have h1 := isD_iff.1 he
    have h2 := isD_iff.1 hd
    by_cases c : e = d
    · subst c
      rw [if_pos rfl, del_look (hI.rise _) hl]
      by_cases c2 : t = s
      · subst c2; rw [keq_self, if_pos rfl, if_pos ⟨rfl, rfl⟩]
      · rw [keq_false.2 (fun z => c2 z.symm), if_neg (by simp), if_neg (fun z => c2 z.2)]
    · rw [if_neg (by omega), if_neg (fun z => c z.1)]
theorem lookS_fresh (S : St) (d : Int) (s : ByteArray) : lookS S.fresh d s = lookS S d s := rfl
theorem lookS_put (S : St) (n p : Nat) (b : Bool) (u : ByteArray) (d : Int) (s : ByteArray) : lookS (S.put n p b u) d s = lookS S d s := rfl
theorem Tags.same {S S' : St} {l : List Tg} (h : Tags S l) (e : ∀ d s, lookS S' d s = lookS S d s) : Tags S' l :=
  ⟨h.dirs, h.apart, fun t ht => by rw [e]; exact h.file t ht, fun d s n hn => h.all d s n (by rw [← e]; exact hn)⟩
/-- a new file -/
theorem Tags.make {S : St} {l : List Tg} (h : Tags S l) (hI : Inv S) {x : Stp} (hd : isD x.dir = true) (hn : look (S.dir x.dir.toNat) x.name = none) :
    Tags (S.fresh.add x.dir.toNat x.name S.next) (l ++ [⟨x.dir, x.name, S.next⟩]) :=
  (h.same (lookS_fresh S)).add hd (by rw [lookS_fresh, lookS_in hd]; exact hn) (lookS_add hI.fresh hd x.name S.next)
/-- one name more -/
theorem Tags.link {S : St} {l : List Tg} (h : Tags S l) (hI : Inv S) {d : Int} {s : ByteArray} {n : Nat} (hd : isD d = true) (hn : look (S.dir d.toNat) s = none) :
    Tags (S.add d.toNat s n) (l ++ [⟨d, s, n⟩]) :=
  h.add hd (by rw [lookS_in hd]; exact hn) (lookS_add hI hd s n)
/-- one name less -/
theorem Tags.unlink {S : St} {l : List Tg} (h : Tags S l) (hI : Inv S) {d : Int} {s : ByteArray} {n i : Nat} (hd : isD d = true) (hl : look (S.dir d.toNat) s = some n) (hi : tagAt l d s = some i) :
    Tags (S.drop d.toNat s) (l.take i ++ l.drop (i + 1)) :=
  h.drop hi (lookS_drop hI hd hl)
theorem tagAt_append {l : List Tg} {d : Int} {s : ByteArray} {i : Nat} (hi : tagAt l d s = some i) (t : Tg) : tagAt (l ++ [t]) d s = some i := by
  unfold tagAt at hi ⊢
  rw [List.findIdx?_append, hi]; rfl
/-- the place that 'at' answers -/
def atI (l : List Tg) (d : Int) (s : ByteArray) : Int := match tagAt l d s with | some i => (i : Int) | none => -1
theorem atI_lookS {S : St} {l : List Tg} (h : Tags S l) (d : Int) (s : ByteArray) : (atI l d s = -1 ∧ lookS S d s = none) ∨ ∃ i, ∃ hl : i < l.length, tagAt l d s = some i ∧ atI l d s = (i : Int) ∧ lookS S d s = some l[i].file := by
  unfold atI
  cases e : tagAt l d s with
  | none => exact .inl ⟨rfl, (tagAt_none h).1 e⟩
  | some i =>
    obtain ⟨hl, _, _, h3⟩ := tagAt_some h e
    exact .inr ⟨i, hl, rfl, rfl, h3⟩
end Idl
end Go.Proofs.YtmlhalhjfcfagabGreat
namespace Go.Proofs.YtmlhalhjfcfagabGreat
open Go.RowKit
set_option maxHeartbeats 400000 in
theorem rName_any (s : ByteArray) (hs : s.size ≤ maxLen) (w : World) :
    Calls Tryz.prog 45 #[.string s] w fun e w' => e = .returned (.bool (Img.isNmB s.toList)) ∧ w' = w := by
  unfold maxLen at hs
  by_cases h1 : s.size < 1
  · have e : Img.isNmB s.toList = false := by rw [isNmB_eq]; simp; omega
    rw [e]; clear e
    go_enter Tryz.func45, Tryz.ntmps45
    go_wp2
    go_ret
    exact ⟨rfl, rfl⟩
  by_cases h6 : 6 < s.size
  · have e : Img.isNmB s.toList = false := by rw [isNmB_eq]; simp; omega
    rw [e]; clear e
    go_enter Tryz.func45, Tryz.ntmps45
    go_wp2
    go_ret
    exact ⟨rfl, rfl⟩
  go_enter Tryz.func45, Tryz.ntmps45
  go_wp2
  go_loop [3] (fun i => ∃ k : Nat, k ≤ s.size ∧ i = .int .i64 k ∧ (s.toList.take k).all ltr = true) (fun i => s.size - (intOf i).toNat)
  case atStart => exact ⟨0, by omega, rfl, rfl⟩
  case round =>
    obtain ⟨k, hk, rfl, hall⟩ := hrel
    have H := hide hall
    clear hall
    by_cases hlt : k < s.size
    · by_cases hc : 97 ≤ (s[k].toNat : Int) ∧ (s[k].toNat : Int) ≤ 122
      · obtain ⟨c1, c2⟩ := hc
        go_wp2
        refine ⟨⟨k + 1, by omega, by go_num, ?_⟩, by simp [intOf]; omega⟩
        rw [all_take_snoc hlt, unhide H]
        simp [ltr]; omega
      · have e : Img.isNmB s.toList = false := nm_false_of hlt (by simp [ltr]; omega)
        have E := hide e
        clear e
        go_wp2
        all_goals first | (exfalso; omega) | (go_ret; exact ⟨ret_bool (unhide E).symm, rfl⟩)
    · go_wp2
      go_ret
      refine ⟨ret_bool ?_, rfl⟩
      have h2 := unhide H
      rw [List.take_of_length_le (by rw [len_toList]; omega)] at h2
      rw [isNmB_eq, h2]
      simp; omega
namespace Idl
theorem spot_prop (d : Int) (s : ByteArray) : spot d s = if d < 0 ∨ 3 ≤ d then 1 else if Img.isNmB s.toList = false then 2 else 0 := by
  unfold spot
  by_cases h : d < 0 ∨ 3 ≤ d
  · rw [if_pos h, if_pos]
    cases e : isD d
    · rfl
    · have := isD_iff.1 e; omega
  · rw [if_neg h, if_neg]
    rw [isD_iff.2 (by omega)]; simp
theorem chk_prop (x : Stp) (nb tb : Bool) (hn : nb = Img.isNmB x.name.toList) (ht : tb = Img.isNmB x.to.toList) : chk x = if x.kind < 1 ∨ 6 < x.kind then 7 else if x.dir < 0 ∨ 3 ≤ x.dir then 1 else if nb = false then 2 else
    if x.kind = 2 ∨ x.kind = 4 then (if x.toDir < 0 ∨ 3 ≤ x.toDir then 1 else if tb = false then 2 else 0) else if (x.kind = 5 ∨ x.kind = 6) ∧ (x.p < 0 ∨ 2 ≤ x.p) then 1 else if x.kind = 5 ∧ 8 < x.text.size then 3 else 0 := by
  unfold chk
  rw [spot_prop, spot_prop, ← hn, ← ht]
  by_cases h1 : x.kind < 1 ∨ 6 < x.kind
  · rw [if_pos h1, if_pos h1]
  · rw [if_neg h1, if_neg h1]
    by_cases h2 : x.dir < 0 ∨ 3 ≤ x.dir
    · rw [if_pos h2, if_pos h2, if_pos (by decide)]
    · rw [if_neg h2, if_neg h2]
      cases nb
      · rw [if_pos rfl, if_pos (by decide), if_pos rfl]
      · simp
set_option maxHeartbeats 4000000 in
theorem stepFault_any (x : Stp) (hn : x.name.size ≤ maxLen) (ht : x.to.size ≤ maxLen) (hx : x.text.size ≤ maxLen) (w : World) :
    Calls Tryz.prog 56 #[.agg (stpA x)] w fun e w' => e = .returned (.int .i64 (chk x)) ∧ Below w.heap.size w w' := by
  have c1 := fun w => rName_any x.name hn w
  have c2 := fun w => rName_any x.to ht w
  obtain ⟨nb, hnb⟩ : ∃ nb, nb = Img.isNmB x.name.toList := ⟨_, rfl⟩
  obtain ⟨tb, htb⟩ : ∃ tb, tb = Img.isNmB x.to.toList := ⟨_, rfl⟩
  rw [chk_prop x nb tb hnb htb]
  rw [← hnb] at c1
  rw [← htb] at c2
  have C1 := hide c1
  have C2 := hide c2
  clear c1 c2 hnb htb hn ht
  unfold maxLen at hx
  obtain ⟨K, D, TD, P, Nm, To, Tx⟩ := x
  simp only at hx C1 C2 ⊢
  cases nb <;> cases tb
  all_goals
    go_enter Tryz.func56, Tryz.ntmps56
    go_wp2_with (first
        | (go_at_call_of 45 (Value.string Nm); refine (unhide C1 _).mono ?_; rintro e w' ⟨rfl, rfl⟩)
        | (go_at_call_of 45 (Value.string To); refine (unhide C2 _).mono ?_; rintro e w' ⟨rfl, rfl⟩))
    all_goals
      go_ret
      refine ⟨ret_int ?_, (Below.refl _ _).alloc (Nat.le_refl _) _⟩
      clear C1 C2
      try simp only [beq_iff_eq, beq_eq_false_iff_ne, ne_eq] at *
      repeat' split
      all_goals first | rfl | omega | (exfalso; simp_all; done)
end Idl
end Go.Proofs.YtmlhalhjfcfagabGreat
namespace Go.Proofs.YtmlhalhjfcfagabGreat
open Go.RowKit
namespace Idl
theorem belowN {B : Nat} {a w : World} (h : Below B a w) : ∀ {n : Nat}, Below B a (w.drewN n) := fun {_} => ⟨h.os, h.tape, h.output, h.size, h.block⟩
theorem drewNN (w : World) (a b : Nat) : (w.drewN a).drewN b = w.drewN (a + b) := by simp [World.drewN, Nat.add_assoc]
theorem drawn3 {w : World} {a b c : Nat} : ((w.drewN a).drewN b).drewN c = w.drewN (a + (b + c)) := by rw [drewNN, drewNN]
/-- the tags' cells: a row of three a tag; the files': of four a file -/
structure IRd (w : World) (b : Nat) (S : St) (l : List Tg) (ta fa : Option Addr) (tc fc : Nat) : Prop where
  lt : b < w.heap.size
  tv : w.cell? ⟨b, 0, none⟩ = some (.slice ta l.length tc)
  fv : w.cell? ⟨b, 1, none⟩ = some (.slice fa S.next fc)
  few : l.length ≤ 1000000
  many : S.next ≤ 1000000
  tags : ∀ i (h : i < l.length), ∃ g o, ta = some ⟨g, o, none⟩ ∧ g < w.heap.size ∧ w.cell? ⟨g, o + i * 3, none⟩ = some (.int .i64 l[i].dir) ∧ w.cell? ⟨g, o + i * 3 + 1, none⟩ = some (.string l[i].name) ∧ w.cell? ⟨g, o + i * 3 + 2, none⟩ = some (.int .i64 (l[i].file : Nat))
  files : ∀ i, i < S.next → ∃ g o, fa = some ⟨g, o, none⟩ ∧ g < w.heap.size ∧ (∀ p, p < 2 → w.cell? ⟨g, o + i * 4 + p, none⟩ = some (.bool (S.has i p))) ∧ ∀ p, p < 2 → w.cell? ⟨g, o + i * 4 + 2 + p, none⟩ = some (.string (S.txt i p))
theorem atI_at {l : List Tg} {d : Int} {s : ByteArray} {i : Nat} (h : i < l.length) (hp : (l[i].dir == d && keq l[i].name s) = true) (hn : ∀ j (hj : j < i), (l[j].dir == d && keq l[j].name s) = false) : atI l d s = (i : Int) := by
  unfold atI tagAt
  rw [List.findIdx?_eq_some_iff_getElem.2 ⟨h, hp, fun j hj => by rw [hn j hj]; simp⟩]
theorem atI_no {l : List Tg} {d : Int} {s : ByteArray} (hn : ∀ j (hj : j < l.length), (l[j].dir == d && keq l[j].name s) = false) : atI l d s = -1 := by
  unfold atI tagAt
  rw [List.findIdx?_eq_none_iff.2 fun t ht => by
    obtain ⟨j, hj, rfl⟩ := List.getElem_of_mem ht
    exact hn j hj]
set_option maxHeartbeats 2000000 in
theorem rAt_any {b : Nat} {S : St} {l : List Tg} {ta fa : Option Addr} {tc fc : Nat} (d : Int) (s : ByteArray) (w : World) (h : IRd w b S l ta fa tc fc) :
    Calls Tryz.prog 64 #[.pointer (some ⟨b, 0, none⟩), .int .i64 d, .string s] w fun e w' => e = .returned (.int .i64 (atI l d s)) ∧ ∃ q, w' = w.drewN q := by
  have tv := h.tv
  have few := h.few
  have lt := h.lt
  have HT := hide h.tags
  obtain ⟨n, hn⟩ : ∃ n, n = l.length := ⟨_, rfl⟩
  have HN := hide hn
  rw [← hn] at tv few
  clear h hn
  go_enter Tryz.func64, Tryz.ntmps64
  go_wp2_with fail
  go_loopw [7] (fun i wr => ∃ k q : Nat, k ≤ n ∧ i = .int .i64 k ∧ Hid (∀ j (hj : j < l.length), j < k → (l[j].dir == d && keq l[j].name s) = false) ∧ wr = w.drewN q) (fun i _ => n - (intOf i).toNat)
  case atStart => exact ⟨0, 0, Nat.zero_le _, rfl, hide fun j hj h => by omega, rfl⟩
  case round =>
    obtain ⟨k, q, hk, rfl, HA, rfl⟩ := hrel
    by_cases hlt : k < n
    · have tn : decide ((k : Int) < (n : Int)) = true := by simp; omega
      have kz : (k : Int) < (n : Int) := by omega
      have hkl : k < l.length := by have := unhide HN; omega
      obtain ⟨g, o, rfl, hg, c0, c1, _⟩ := unhide HT k hkl
      have NX := hide (fun (h : (l[k].dir == d && keq l[k].name s) = false) => (fun j (hj : j < l.length) (hjk : j < k + 1) => by
        by_cases e : j = k
        · subst e; exact h
        · exact unhide HA j hj (by omega) : ∀ j (hj : j < l.length), j < k + 1 → (l[j].dir == d && keq l[j].name s) = false))
      have YES := hide (fun (h : (l[k].dir == d && keq l[k].name s) = true) => atI_at hkl h (fun j hj => unhide HA j (by omega) hj))
      have EK := hide (show keq l[k].name s = (l[k].name.toList == s.toList) from rfl)
      cases h1 : (l[k].dir == d)
      · have W := hide (unhide NX (by rw [h1]; rfl))
        clear NX YES HA
        go_wp2_with fail
        try (go_quiet (fail); go_wp2_with fail)
        go_roundw
        case rel => exact ⟨k + 1, _, by omega, by go_num, W, by first | rfl | exact drewNN _ _ _⟩
        case measure => simp [intOf]; omega
      · cases h2 : (l[k].name.toList == s.toList)
        · have W := hide (unhide NX (by rw [h1, unhide EK, h2]; rfl))
          clear NX YES HA
          go_wp2_with fail
          try (go_quiet (fail); go_wp2_with fail)
          go_roundw
          case rel => exact ⟨k + 1, _, by omega, by go_num, W, by first | rfl | exact drewNN _ _ _⟩
          case measure => simp [intOf]; omega
        · have HE := hide (unhide YES (by rw [h1, unhide EK, h2]; rfl))
          clear NX YES HA
          go_wp2_with fail
          try (go_quiet (fail); go_wp2_with fail)
          go_ret
          exact ⟨by rw [unhide HE]; rfl, by first | exact ⟨_, rfl⟩ | exact ⟨_, drewNN _ _ _⟩⟩
    · have tn : decide ((k : Int) < (n : Int)) = false := by simp; omega
      have HE := hide (atI_no (l := l) (d := d) (s := s) (fun j hj => unhide HA j hj (by have := unhide HN; omega)))
      go_wp2_with fail
      go_ret
      exact ⟨by rw [unhide HE]; rfl, _, rfl⟩
theorem IRd.draw {w : World} {b : Nat} {S : St} {l : List Tg} {ta fa : Option Addr} {tc fc : Nat} (h : IRd w b S l ta fa tc fc) (q : Nat) : IRd (w.drewN q) b S l ta fa tc fc := ⟨h.lt, h.tv, h.fv, h.few, h.many, h.tags, h.files⟩
theorem same_some {S : St} {d e : Int} {s t : ByteArray} {a b : Nat} (h1 : lookS S d s = some a) (h2 : lookS S e t = some b) : same S d s e t = (a == b) := by unfold same; rw [h1, h2]
theorem same_none1 {S : St} {d e : Int} {s t : ByteArray} (h1 : lookS S d s = none) : same S d s e t = false := by unfold same; rw [h1]
theorem same_none2 {S : St} {d e : Int} {s t : ByteArray} (h2 : lookS S e t = none) : same S d s e t = false := by
  unfold same; rw [h2]
  cases lookS S d s <;> rfl
set_option maxHeartbeats 2000000 in
theorem rSame_any {b : Nat} {S : St} {l : List Tg} {ta fa : Option Addr} {tc fc : Nat} (hT : Tags S l) (d : Int) (s : ByteArray) (e : Int) (t : ByteArray) (w : World) (h : IRd w b S l ta fa tc fc) :
    Calls Tryz.prog 34 #[.pointer (some ⟨b, 0, none⟩), .int .i64 d, .string s, .int .i64 e, .string t] w fun r w' => r = .returned (.bool (same S d s e t)) ∧ ∃ q, w' = w.drewN q := by
  have C1 := hide (rAt_any d s w h)
  have C2 := hide (fun q => rAt_any e t (w.drewN q) (h.draw q))
  have tv := h.tv
  have few := h.few
  have lt := h.lt
  have HT := hide h.tags
  rcases atI_lookS hT d s with ⟨a1, a2⟩ | ⟨i, hi, _, a1, a2⟩
  · have E := hide (same_none1 (e := e) (t := t) a2)
    rw [a1] at C1
    obtain ⟨y, hy⟩ : ∃ y, y = atI l e t := ⟨_, rfl⟩
    rw [← hy] at C2
    clear hy a1 a2 h
    go_enter Tryz.func34, Tryz.ntmps34
    go_wp2_with fail
    refine (unhide C1).mono ?_
    rintro r w1 ⟨rfl, q1, rfl⟩
    go_wp2_with fail
    refine (unhide C2 q1).mono ?_
    rintro r w1 ⟨rfl, q2, rfl⟩
    go_wp2_with fail
    try (go_quiet (fail); go_wp2_with fail)
    go_ret
    exact ⟨by rw [unhide E]; rfl, by first | exact ⟨_, rfl⟩ | exact ⟨_, drewNN _ _ _⟩ | exact ⟨_, drawn3⟩⟩
  · rcases atI_lookS hT e t with ⟨b1, b2⟩ | ⟨j, hj, _, b1, b2⟩
    · have E := hide (same_none2 (d := d) (s := s) b2)
      rw [a1] at C1
      rw [b1] at C2
      have u1 : decide ((i : Int) ≥ 0) = true := by simp
      have u2 : decide (0 ≤ (i : Int)) = true := by simp
      clear a1 a2 b1 b2 h
      go_enter Tryz.func34, Tryz.ntmps34
      go_wp2_with fail
      refine (unhide C1).mono ?_
      rintro r w1 ⟨rfl, q1, rfl⟩
      go_wp2_with fail
      refine (unhide C2 q1).mono ?_
      rintro r w1 ⟨rfl, q2, rfl⟩
      go_wp2_with fail
      try (go_quiet (fail); go_wp2_with fail)
      go_ret
      exact ⟨by rw [unhide E]; rfl, by first | exact ⟨_, rfl⟩ | exact ⟨_, drewNN _ _ _⟩ | exact ⟨_, drawn3⟩⟩
    · have E := hide (same_some a2 b2)
      rw [a1] at C1
      rw [b1] at C2
      have u1 : decide ((i : Int) ≥ 0) = true := by simp
      have u2 : decide (0 ≤ (i : Int)) = true := by simp
      have u3 : decide ((j : Int) ≥ 0) = true := by simp
      have u4 : decide (0 ≤ (j : Int)) = true := by simp
      obtain ⟨g, o, rfl, hg, _, _, c2⟩ := unhide HT i hi
      obtain ⟨g', o', ee, hg', _, _, d2⟩ := unhide HT j hj
      obtain ⟨rfl, rfl⟩ : g = g' ∧ o = o' := by simpa using ee
      obtain ⟨n, hn⟩ : ∃ n, n = l.length := ⟨_, rfl⟩
      rw [← hn] at tv few hi hj
      have iz : (i : Int) < (n : Int) := by omega
      have jz : (j : Int) < (n : Int) := by omega
      obtain ⟨fa', hfa⟩ : ∃ x : Int, x = ((l[i]'(by omega)).file : Nat) := ⟨_, rfl⟩
      obtain ⟨fb', hfb⟩ : ∃ x : Int, x = ((l[j]'(by omega)).file : Nat) := ⟨_, rfl⟩
      have EQ := hide (show (fa' == fb') = ((l[i]'(by omega)).file == (l[j]'(by omega)).file) by rw [hfa, hfb]; exact Bool.eq_iff_iff.2 (by simp only [beq_iff_eq]; omega))
      rw [← hfa] at c2
      rw [← hfb] at d2
      clear a1 a2 b1 b2 h hfa hfb ee hn
      go_enter Tryz.func34, Tryz.ntmps34
      go_wp2_with fail
      refine (unhide C1).mono ?_
      rintro r w1 ⟨rfl, q1, rfl⟩
      go_wp2_with fail
      refine (unhide C2 q1).mono ?_
      rintro r w1 ⟨rfl, q2, rfl⟩
      go_wp2_with fail
      try (go_quiet (fail); go_wp2_with fail)
      go_ret
      exact ⟨by rw [unhide E, ← unhide EQ]; rfl, by first | exact ⟨_, rfl⟩ | exact ⟨_, drewNN _ _ _⟩ | exact ⟨_, drawn3⟩ | exact ⟨_, by rw [drewNN, drewNN]⟩⟩
end Idl
end Go.Proofs.YtmlhalhjfcfagabGreat
namespace Go.Proofs.YtmlhalhjfcfagabGreat
open Go.RowKit
namespace Idl
/-- what is appended: m elements, of these cells -/
def Part (W : World) (size : Nat) (x : Value) (m : Nat) (news : List Value) : Prop :=
  (x = .slice none 0 0 ∧ m = 0 ∧ news = []) ∨ ∃ ad c, x = .slice (some ad) m c ∧ news.length = m * size ∧ ∀ j u, news[j]? = some u → W.cell? (ad.add j) = some u
section
variable {P : Program} {W : World} {base : Nat} {t e : TypeId} {i : TypeInfo} {z : Value} {size bytes : Nat}
theorem run_append_part (ty : TypeId) (ht : P.underlying t = some (.slice e)) (hi : P.info? e = some i) (hz : i.zero = some z)
    (hsize : i.size = size) (hby : i.bytes = bytes) (hzs : z.cells.size = size) (hsz : 0 < size) {v : Value} {n : Nat} {xs : List Value} (hown : W.ownsRow base e size v n xs)
    {x : Value} {m : Nat} {news : List Value} (hp : Part W size x m news) (h1 : ∀ u ∈ news, u.oneCell' = true) (h63 : n + m ≤ maxLen) (hbytes : (n + m) * bytes ≤ 140737488355328) (hbase : base ≤ W.heap.size) :
    ∃ v' W', (Builtin.append_ #[t, t] ty #[v, x]).run P W = .ok v' W' ∧ W'.ownsRow base e size v' (n + m) (xs ++ news) ∧ W.grownBy W' v.ownBlock ∧ (v'.ownBlock = v.ownBlock ∨ v'.ownBlock = some W.heap.size) := by
  rcases hp with ⟨rfl, rfl, rfl⟩ | ⟨ad, c, rfl, hl, hnews⟩
  · exact ⟨v, W, run_append_owned_none W base t ty e i size ht hi v n xs hown, by simpa using hown, ⟨rfl, rfl, rfl, Nat.le_refl _, fun _ _ _ => rfl⟩, .inl rfl⟩
  · obtain ⟨v', w', hr, h2, h3, _, h5⟩ := run_append_own_at (P := P) W base t ty e i z size bytes ht hi hz hsize hby hzs hsz v n xs hown ad m c news hl hnews h1 h63 hbytes hbase
    exact ⟨v', w', hr, h2, h3, h5⟩
theorem wp_append_part {o : Oper} {a : Act} {K : Act → World → Prop} {Q : Exit → Act → World → Prop} (s x : Operand)
    (ho : o.op = .call { callee := .builtin .append, args := #[s, x], argTypes := #[t, t] }) (ht : P.underlying t = some (.slice e)) (hi : P.info? e = some i) (hz : i.zero = some z)
    (hsize : i.size = size) (hby : i.bytes = bytes) (hzs : z.cells.size = size) (hsz : 0 < size) {v : Value} {n : Nat} {xs : List Value} (hs : a.eval s = v) (hown : W.ownsRow base e size v n xs)
    {xv : Value} {m : Nat} {news : List Value} (hx : a.eval x = xv) (hp : Part W size xv m news) (h1 : ∀ u ∈ news, u.oneCell' = true) (h63 : n + m ≤ maxLen) (hbytes : (n + m) * bytes ≤ 140737488355328) (hbase : base ≤ W.heap.size)
    (h : ∀ v' W', W'.ownsRow base e size v' (n + m) (xs ++ news) → W.grownBy W' v.ownBlock → (v'.ownBlock = v.ownBlock ∨ v'.ownBlock = some W.heap.size) → K (a.put o.dst v') W') : o.wp P a W K Q := by
  obtain ⟨v', w', hr, h2, h3, h4⟩ := run_append_part (P := P) (W := W) o.type ht hi hz hsize hby hzs hsz hown hp h1 h63 hbytes hbase
  unfold Oper.wp execOp
  simp only [ho, resolve, invoke, builtin, Sem.run_bind, Sem.run_pure, Result.andThen_ok, List.map_toArray, List.map_cons, List.map_nil, hs, hx, hr]
  exact h v' w' h2 h3 h4
/-- a row of one's own: a slice, and its two parts -/
theorem own_form {v : Value} {m : Nat} {xs : List Value} (h : W.ownsRow base e size v m xs) : ∃ a cap, v = .slice a m cap ∧ m ≤ cap := by
  rcases h.2 with ⟨rfl, rfl⟩ | ⟨g, cap, cur, rfl, _, _, hm, _⟩
  · exact ⟨_, _, rfl, Nat.le_refl _⟩
  · exact ⟨_, _, rfl, hm⟩
theorem part_lo {a : Option Addr} {m cap k : Nat} {xs : List Value} (h : W.ownsRow base e size (.slice a m cap) m xs) (hk : k ≤ m) : Part W size (sliced a 0 k cap size) k (xs.take (k * size)) := by
  have hl := h.1
  rcases h.2 with ⟨ev, rfl⟩ | ⟨g, cap', cur, ev, _, _, hm, _⟩
  · simp only [Value.slice.injEq] at ev
    obtain ⟨rfl, _, rfl⟩ := ev
    have : k = 0 := by omega
    subst this
    exact .inl ⟨rfl, rfl, by simp⟩
  · simp only [Value.slice.injEq] at ev
    obtain ⟨rfl, _, rfl⟩ := ev
    have hc := h.cells (g := g) rfl
    have hks : k * size ≤ m * size := Nat.mul_le_mul_right _ hk
    refine .inr ⟨⟨g, 0, none⟩, cap, ?_, by rw [List.length_take]; omega, fun j u hj => hc j u ?_⟩
    · unfold sliced
      split
      · rfl
      · rw [Option.map_some, Addr.add_lit]; simp
    · rw [List.getElem?_take] at hj
      split at hj
      · exact hj
      · cases hj
theorem part_hi {a : Option Addr} {m cap k : Nat} {xs : List Value} (h : W.ownsRow base e size (.slice a m cap) m xs) (hk : k ≤ m) : Part W size (sliced a k m cap size) (m - k) (xs.drop (k * size)) := by
  have hl := h.1
  rcases h.2 with ⟨ev, rfl⟩ | ⟨g, cap', cur, ev, _, _, hm, _⟩
  · simp only [Value.slice.injEq] at ev
    obtain ⟨rfl, _, rfl⟩ := ev
    have : k = 0 := by omega
    subst this
    have : xs = [] := List.eq_nil_of_length_eq_zero (by simpa using hl)
    subst this
    exact .inl ⟨rfl, rfl, by simp⟩
  · simp only [Value.slice.injEq] at ev
    obtain ⟨rfl, _, rfl⟩ := ev
    have hc := h.cells (g := g) rfl
    by_cases e1 : cap = k
    · have e2 : m = k := by omega
      subst e2
      refine .inr ⟨⟨g, 0, none⟩, cap - m, ?_, by rw [List.length_drop, hl, Nat.sub_self, Nat.sub_self]; simp, fun j u hj => ?_⟩
      · unfold sliced; rw [if_pos e1]
      · rw [List.getElem?_eq_none (by rw [List.length_drop]; omega)] at hj; cases hj
    · refine .inr ⟨⟨g, k * size, none⟩, cap - k, ?_, by rw [List.length_drop, hl, Nat.sub_mul], fun j u hj => ?_⟩
      · unfold sliced; rw [if_neg e1, Option.map_some, Addr.add_lit, Nat.zero_add]
      · rw [List.getElem?_drop] at hj
        have := hc _ _ hj
        rw [Addr.add_lit, Nat.zero_add] at this
        rw [Addr.add_lit]
        exact this
theorem Part.grown {m : Nat} {news : List Value} {B g : Nat} {W' : World} (hW : ∀ k, k < W.heap.size → k ≥ B → W'.heap[k]? = W.heap[k]?) (hB : g ≥ B) (hg : g < W.heap.size) (h : Part W size (.slice (some ⟨g, 0, none⟩) m m) m news) : Part W' size (.slice (some ⟨g, 0, none⟩) m m) m news := by
  rcases h with ⟨h, _⟩ | ⟨ad, c, e, hl, hn⟩
  · cases h
  · simp only [Value.slice.injEq, Option.some.injEq] at e
    obtain ⟨rfl, _, rfl⟩ := e
    refine .inr ⟨_, _, rfl, hl, fun j u hj => ?_⟩
    rw [← hn j u hj]
    rw [Addr.add_lit]
    exact World.cell?_of_block (hW g hg hB)
theorem run_exec_cut_lo {o : Oper} {ρ : Operand → Value} (x y : Operand) (ty : TypeId) (ho : o.op = .slice ty x none (some y) none) {a : Option Addr} {m cap k : Nat} (hx : ρ x = .slice a m cap) (hy : ρ y = .int .i64 (k : Int)) (hk : k ≤ cap)
    (hu : P.underlying ty = some (.slice (P.elem ty))) (hs : (P.info? (P.elem ty)).map (·.size) = some size) (w : World) : (execOp ρ o).run P w = .ok (.value (sliced a 0 k cap size)) w := by
  cases hq : P.info? (P.elem ty) with
  | none => rw [hq] at hs; cases hs
  | some q =>
    rw [hq] at hs
    have hs' : q.size = size := by simpa using hs
    have := run_slice_h (P := P) w ty a m cap hu .i64 (k : Int) (by omega) (by omega)
    unfold execOp
    simp [ho, hx, hy, run_sliceAt_slice, hu, this, sizeOf, typeInfo, hq, hs']
theorem run_exec_cut_hi {o : Oper} {ρ : Operand → Value} (x y : Operand) (ty : TypeId) (ho : o.op = .slice ty x (some y) none none) {a : Option Addr} {m cap k : Nat} (hx : ρ x = .slice a m cap) (hy : ρ y = .int .i64 (k : Int)) (hk : k ≤ m)
    (hu : P.underlying ty = some (.slice (P.elem ty))) (hs : (P.info? (P.elem ty)).map (·.size) = some size) (w : World) : (execOp ρ o).run P w = .ok (.value (sliced a k m cap size)) w := by
  cases hq : P.info? (P.elem ty) with
  | none => rw [hq] at hs; cases hs
  | some q =>
    rw [hq] at hs
    have hs' : q.size = size := by simpa using hs
    have := run_slice_l (P := P) w ty a m cap hu .i64 (k : Int) (by omega) (by omega)
    unfold execOp
    simp [ho, hx, hy, run_sliceAt_slice, hu, this, sizeOf, typeInfo, hq, hs']
end
/-! the names, one tag more -/
theorem namesOf_app : ∀ (l k : List Tg) (d : Int) (out : List ByteArray), namesOf (l ++ k) d out = namesOf k d (namesOf l d out)
  | [], _, _, _ => rfl
  | _ :: l, k, d, _ => namesOf_app l k d _
theorem namesOf_len : ∀ (l : List Tg) (d : Int) (out : List ByteArray), (namesOf l d out).length ≤ l.length + out.length
  | [], d, out => by simp [namesOf]
  | t :: l, d, out => by
    unfold namesOf
    have h := namesOf_len l d (if t.dir = d then insN out t.name else out)
    have h2 : (if t.dir = d then insN out t.name else out).length ≤ out.length + 1 := by
      split
      · unfold insN
        rw [List.length_append, List.length_cons, List.length_take, List.length_drop]
        omega
      · omega
    rw [List.length_cons]
    omega
theorem namesOf_more {l : List Tg} {k : Nat} (h : k < l.length) (d : Int) : namesOf (l.take (k + 1)) d [] = if l[k].dir = d then insN (namesOf (l.take k) d []) l[k].name else namesOf (l.take k) d [] := by
  rw [List.take_add_one, List.getElem?_eq_getElem h, namesOf_app]
  rfl
theorem plN_at {o : List ByteArray} {s : ByteArray} {k : Nat} (hk : k ≤ o.length) (h1 : ∀ j (hj : j < o.length), j < k → lt o[j] s = true) (h2 : ∀ hj : k < o.length, lt o[k] s = false) : plN o s = k := by
  unfold plN
  induction o generalizing k with
  | nil => simp at hk ⊢; omega
  | cons a o ih =>
    cases k with
    | zero =>
      have := h2 (by simp)
      rw [List.getElem_cons_zero] at this
      rw [List.takeWhile_cons, if_neg (by simp [this])]
      rfl
    | succ k =>
      have := h1 0 (by simp) (by omega)
      rw [List.getElem_cons_zero] at this
      rw [List.takeWhile_cons, if_pos this, List.length_cons, ih (k := k) (by simpa using hk) (fun j hj hjk => h1 (j + 1) (by simpa using hj) (by omega)) (fun hj => h2 (by simpa using hj))]
end Idl
end Go.Proofs.YtmlhalhjfcfagabGreat
namespace Go.Proofs.YtmlhalhjfcfagabGreat
open Go.RowKit
namespace Idl
/-- the list so far: a row of one's own -/
def LS (w : World) (a : Option Addr) (m cap : Nat) (o : List ByteArray) (W : World) : Prop := W.ownsRow w.heap.size 9 1 (.slice a m cap) m (strs o) ∧ Below w.heap.size w W
/-- another row -/
def Off (a : Option Addr) (v : Value) : Prop := ∀ g, a.map Addr.block = some g → v.ownBlock ≠ some g
section
variable {w W W' : World} {a : Option Addr} {m cap : Nat} {o : List ByteArray}
theorem ownB (a : Option Addr) (m cap : Nat) : (Value.slice a m cap).ownBlock = a.map Addr.block := by cases a <;> rfl
theorem LS.draw (h : LS w a m cap o W) : LS w a m cap o W.drew := ⟨h.1, h.2.drew⟩
theorem LS.alloc (h : LS w a m cap o W) (ob : Obj) : LS w a m cap o (W.alloc ob) := ⟨World.ownsRow.alloc h.1 ob, h.2.alloc h.2.size ob⟩
theorem keepS {v : Value} {n : Nat} {xs : List Value} (h : LS w a m cap o W) (ho : W.ownsRow w.heap.size 9 1 v n xs) (hd : Off a v) (hg : W.grownBy W' v.ownBlock) : LS w a m cap o W' := by
  refine ⟨h.1.kept hg ?_, h.2.grown hg h.2.size (fun k hk => (ho.lt k hk).1)⟩
  cases a with
  | none => exact .inl rfl
  | some ad => exact .inr fun e => hd ad.block rfl (by rw [← e]; rfl)
theorem keepN (h : LS w a m cap o W) (hg : W.grownBy W' (Value.slice none 0 0).ownBlock) : LS w a m cap o W' := by
  refine ⟨h.1.kept hg ?_, h.2.grown hg h.2.size (fun k hk => by cases hk)⟩
  cases a with
  | none => exact .inl rfl
  | some ad => exact .inr fun e => by cases e
theorem keepE {v : Value} (h : LS w a m cap o W) (ha : v.ownBlock = (Value.slice none 0 0).ownBlock ∨ v.ownBlock = some W.heap.size) : Off a v := fun g hg e => by
  have := (h.1.lt g (by rw [ownB]; exact hg)).2
  rcases ha with ha | ha
  · rw [ha] at e; cases e
  · rw [ha] at e; cases e; omega
theorem keepD {v v2 : Value} (h : LS w a m cap o W) (hd : Off a v) (ha : v2.ownBlock = v.ownBlock ∨ v2.ownBlock = some W.heap.size) : Off a v2 := fun g hg e => by
  have := (h.1.lt g (by rw [ownB]; exact hg)).2
  rcases ha with ha | ha
  · exact hd g hg (by rw [← ha]; exact e)
  · rw [ha] at e; cases e; omega
theorem part_new (W : World) (s : ByteArray) : Part (W.alloc (.cells #[.string s] 9)) 1 (.slice (some ⟨W.heap.size, 0, none⟩) 1 1) 1 [.string s] := .inr ⟨_, _, rfl, rfl, one_new _ _ _ _ rfl⟩
theorem own_new {v : Value} {n : Nat} {xs : List Value} (h : W.ownsRow w.heap.size 9 1 v n xs) (ob : Obj) : (W.alloc ob).ownsRow w.heap.size 9 1 v n xs := World.ownsRow.alloc h ob
end
theorem strs_one (o : List ByteArray) : ∀ u ∈ strs o, u.oneCell' = true := fun u hu => by
  obtain ⟨_, _, rfl⟩ := List.mem_map.1 hu
  rfl
theorem strs_ins {o : List ByteArray} {s : ByteArray} {k : Nat} (h : plN o s = k) : strs (insN o s) = (strs o).take (k * 1) ++ [.string s] ++ (strs o).drop (k * 1) := by
  unfold insN strs
  rw [h, Nat.mul_one]
  simp
theorem insN_len {o : List ByteArray} {s : ByteArray} : (insN o s).length = o.length + 1 := by
  unfold insN
  rw [List.length_append, List.length_cons, List.length_take, List.length_drop]
  have : plN o s ≤ o.length := by unfold plN; exact (List.takeWhile_sublist _).length_le
  omega
theorem list_ends {w W : World} {a : Option Addr} {m cap k : Nat} {o X : List ByteArray} {s : ByteArray} {v : Value} (hp : plN o s = k) (hkm : k ≤ m) (hm : m = o.length) (hS : LS w a m cap o W)
    (ho : W.ownsRow w.heap.size 9 1 v (0 + k + 1 + (m - k)) ([] ++ (strs o).take (k * 1) ++ [.string s] ++ (strs o).drop (k * 1))) (hX : X = insN o s) :
    ∃ a m cap o', v = .slice a m cap ∧ m ≤ cap ∧ o' = X ∧ m = o'.length ∧ LS w a m cap o' W := by
  rw [List.nil_append, ← strs_ins hp, show 0 + k + 1 + (m - k) = (insN o s).length by rw [insN_len]; omega] at ho
  obtain ⟨a', cap', rfl, hc⟩ := own_form ho
  exact ⟨a', _, cap', insN o s, rfl, hc, hX.symm, rfl, ho, hS.2⟩
theorem list_cell {w W : World} {a : Option Addr} {m cap k : Nat} {o : List ByteArray} (h : LS w a m cap o W) (hm : m = o.length) (hk : k < m) : ∃ g, a = some ⟨g, 0, none⟩ ∧ W.cell? ⟨g, k, none⟩ = some (.string (o[k]'(by omega))) := by
  rcases h.1.2 with ⟨ev, e0⟩ | ⟨g, cap', cur, ev, _⟩
  · omega
  · simp only [Value.slice.injEq] at ev
    obtain ⟨rfl, _, rfl⟩ := ev
    refine ⟨g, rfl, ?_⟩
    have := h.1.cells (g := g) rfl k (.string (o[k]'(by omega))) (by unfold strs; rw [List.getElem?_map, List.getElem?_eq_getElem (by omega)]; rfl)
    rw [Addr.add_lit, Nat.zero_add] at this
    exact this
set_option maxRecDepth 100000 in
set_option maxHeartbeats 4000000 in
theorem rList_any {b : Nat} {S : St} {l : List Tg} {ta fa : Option Addr} {tc fc : Nat} (hfew : l.length ≤ 1000) (d : Int) (w : World) (h : IRd w b S l ta fa tc fc) :
    Calls Tryz.prog 32 #[.pointer (some ⟨b, 0, none⟩), .int .i64 d] w fun e w' => ∃ v, e = .returned v ∧ w'.ownsRow w.heap.size 9 1 v (namesOf l d []).length (strs (namesOf l d [])) ∧ Below w.heap.size w w' := by
  obtain ⟨i0, hi0, hz0, hz1, hz2⟩ := str_info
  have tv := h.tv
  have lt := h.lt
  have HT := hide h.tags
  obtain ⟨n, hn⟩ : ∃ n, n = l.length := ⟨_, rfl⟩
  have HN := hide hn
  rw [← hn] at tv hfew
  have HD := hide (show namesOf (l.take n) d [] = namesOf l d [] by rw [hn, List.take_of_length_le (Nat.le_refl _)])
  clear h hn
  go_enter Tryz.func32, Tryz.ntmps32
  go_wp2_with fail
  go_loopw [5, 6] (fun v i wr => ∃ k : Nat, k ≤ n ∧ i = .int .i64 k ∧ ∃ a m cap o, v = .slice a m cap ∧ m ≤ cap ∧ o = namesOf (l.take k) d [] ∧ m = o.length ∧ LS w a m cap o wr) (fun _ i _ => n - (intOf i).toNat)
  case atStart => exact ⟨0, Nat.zero_le _, rfl, none, 0, 0, [], rfl, Nat.le_refl _, by simp [namesOf], rfl, World.ownsRow_nil _ _ _ _, Below.refl _ _⟩
  case round =>
    rename_i wr
    obtain ⟨kk, hk, rfl, a, m, cap, o, rfl, hmc, ho, hm, hS0⟩ := hrel
    have tw : wr.cell? ⟨b, 0, none⟩ = some (.slice ta n tc) := (hS0.2.cell (p := ⟨b, 0, none⟩) lt).trans tv
    have ltw : b < wr.heap.size := Nat.lt_of_lt_of_le lt hS0.2.size
    by_cases hlt : kk < n
    · have tn : decide ((kk : Int) < (n : Int)) = true := by simp; omega
      have kz : (kk : Int) < (n : Int) := by omega
      have hkl : kk < l.length := by have := unhide HN; omega
      obtain ⟨g, og, rfl, hg, c0, c1, _⟩ := unhide HT kk hkl
      have d0 := (hS0.2.cell (p := ⟨g, og + kk * 3, none⟩) hg).trans c0
      have d1 := (hS0.2.cell (p := ⟨g, og + kk * 3 + 1, none⟩) hg).trans c1
      have MORE := hide (namesOf_more hkl d)
      rw [← ho] at MORE
      have hml : m ≤ 1000 := by
        have := namesOf_len (l.take kk) d []
        rw [← ho, ← hm, List.length_take] at this
        simp only [List.length_nil] at this
        omega
      have HM := hide hm
      clear c0 c1 hm ho
      generalize l[kk].name = s at d1 MORE
      generalize l[kk].dir = dd at d0 MORE
      cases h1 : (dd != d)
      · have hin : dd = d := by simpa using h1
        rw [if_pos hin] at MORE
        clear hin
        go_wp2_with fail
        try (go_quiet (fail); go_wp2_with fail)
        clear d0 d1 tw h1
        go_loopw [9] (fun i wx => ∃ k : Nat, k ≤ m ∧ i = .int .i64 k ∧ Hid (∀ j (hj : j < o.length), j < k → Idl.lt o[j] s = true) ∧ wx = wr) (fun i _ => m - (intOf i).toNat)
        case atStart => exact ⟨0, Nat.zero_le _, rfl, hide fun j hj h => by omega, rfl⟩
        case round =>
          obtain ⟨k, hkm, rfl, HA, rfl⟩ := hrel
          by_cases hlk : k < m
          · have tk : decide ((k : Int) < (m : Int)) = true := by simp; omega
            have kzz : (k : Int) < (m : Int) := by omega
            obtain ⟨go, rfl, co⟩ := list_cell hS0 (unhide HM) hlk
            have hko : k < o.length := by have := unhide HM; omega
            have EL := hide (show Idl.lt o[k] s = Op.bytesLess (o[k]).toList s.toList from rfl)
            have NX := hide (fun (h : Idl.lt o[k] s = true) => (fun j (hj : j < o.length) (hjk : j < k + 1) => by
              by_cases e : j = k
              · subst e; exact h
              · exact unhide HA j hj (by omega) : ∀ j (hj : j < o.length), j < k + 1 → Idl.lt o[j] s = true))
            have YES := hide (fun (h : Idl.lt o[k] s = false) => plN_at (k := k) (by omega) (unhide HA) (fun _ => h))
            generalize o[k] = ok at co EL NX YES
            cases h2 : Op.bytesLess ok.toList s.toList
            · have hpl := unhide YES (by rw [unhide EL, h2])
              clear NX YES HA EL
              go_wp2_with fail
              try (go_quiet (fail); go_wp2_with fail)
              obtain ⟨a, ha⟩ : ∃ a, a = some (⟨go, 0, none⟩ : Addr) := ⟨_, rfl⟩
              rw [← ha] at hS0 ⊢
              clear ha co h2
              obtain ⟨xl, hxl⟩ : ∃ x, x = sliced a 0 k cap 1 := ⟨_, rfl⟩
              obtain ⟨xh, hxh⟩ : ∃ x, x = sliced a k m cap 1 := ⟨_, rfl⟩
              have HXL := hide hxl
              have HXH := hide hxh
              clear hxl hxh
              refine wp_region_held_drew (S := LS w a m cap o) (by kernel_rfl) (LS.draw hS0) (fun hS => ?_)
              refine wpAnyH_take (i := 0) (oi := { dst := some 51, op := Op.move (Operand.tmp 8), type := 60, pos := "base.go:439", after := #[], guard := none }) (v := .slice none 0 0) rfl (by kernel_rfl) (by kernel_rfl) (by kernel_rfl) (fun _ _ _ h => h) (Or.inl ⟨by kernel_rfl, fun W h => (by first | kernel_rfl | go_simp)⟩) hS ?_
              refine wpAnyH_take (i := 1) (oi := { dst := some 52, op := Op.move (Operand.tmp 5), type := 60, pos := "base.go:439", after := #[], guard := none }) (v := .slice a m cap) rfl (by kernel_rfl) (by kernel_rfl) (by kernel_rfl) (fun _ _ _ h => h) (Or.inl ⟨by kernel_rfl, fun W h => (by first | kernel_rfl | go_simp)⟩) hS ?_
              refine wpAnyH_take (i := 2) (oi := { dst := some 53, op := Op.move (Operand.tmp 9), type := 3, pos := "base.go:439", after := #[], guard := none }) (v := .int .i64 k) rfl (by kernel_rfl) (by kernel_rfl) (by kernel_rfl) (fun _ _ _ h => h) (Or.inl ⟨by kernel_rfl, fun W h => (by first | kernel_rfl | go_simp)⟩) hS ?_
              refine wpAnyH_take (i := 3) (oi := { dst := some 54, op := Op.slice 60 (Operand.tmp 52) none (some (Operand.tmp 53)) none, type := 60, pos := "base.go:439", after := #[{ on := 1, ground := Ground.data }, { on := 2, ground := Ground.data }], guard := none }) (v := xl) rfl (by kernel_rfl) (by kernel_rfl) (by kernel_rfl) (fun _ _ _ h => h) (Or.inl ⟨by kernel_rfl, fun W h => (by rw [unhide HXL]; exact run_exec_cut_lo (m := m) (.tmp 52) (.tmp 53) 60 (by kernel_rfl) (by kernel_rfl) (by kernel_rfl) (by omega) Tryz.underlying60 (by kernel_rfl) W)⟩) hS ?_
              refine wpAnyH_take (i := 5) (oi := { dst := some 56, op := Op.move (Operand.tmp 7), type := 9, pos := "base.go:439", after := #[], guard := none }) (v := .string s) rfl (by kernel_rfl) (by kernel_rfl) (by kernel_rfl) (fun _ _ _ h => h) (Or.inl ⟨by kernel_rfl, fun W h => (by first | kernel_rfl | go_simp)⟩) hS ?_
              refine wpAnyH_take (i := 8) (oi := { dst := some 59, op := Op.move (Operand.tmp 5), type := 60, pos := "base.go:439", after := #[], guard := none }) (v := .slice a m cap) rfl (by kernel_rfl) (by kernel_rfl) (by kernel_rfl) (fun _ _ _ h => h) (Or.inl ⟨by kernel_rfl, fun W h => (by first | kernel_rfl | go_simp)⟩) hS ?_
              refine wpAnyH_take (i := 9) (oi := { dst := some 60, op := Op.move (Operand.tmp 9), type := 3, pos := "base.go:439", after := #[], guard := none }) (v := .int .i64 k) rfl (by kernel_rfl) (by kernel_rfl) (by kernel_rfl) (fun _ _ _ h => h) (Or.inl ⟨by kernel_rfl, fun W h => (by first | kernel_rfl | go_simp)⟩) hS ?_
              refine wpAnyH_take (i := 10) (oi := { dst := some 61, op := Op.slice 60 (Operand.tmp 59) (some (Operand.tmp 60)) none none, type := 60, pos := "base.go:439", after := #[{ on := 8, ground := Ground.data }, { on := 9, ground := Ground.data }], guard := none }) (v := xh) rfl (by kernel_rfl) (by kernel_rfl) (by kernel_rfl) (fun _ _ _ h => h) (Or.inl ⟨by kernel_rfl, fun W h => (by rw [unhide HXH]; exact run_exec_cut_hi (m := m) (.tmp 59) (.tmp 60) 60 (by kernel_rfl) (by kernel_rfl) (by kernel_rfl) hkm Tryz.underlying60 (by kernel_rfl) W)⟩) hS ?_
              generalize World.drew _ = W0 at hS ⊢
              refine wpAnyH_ready (rs := [4, 6]) (by kernel_rfl) (by simp) ?_
              refine AllReadyH.cons (o := { dst := some 55, op := Op.call { callee := Callee.builtin Builtin.append, args := #[Operand.tmp 51, Operand.tmp 54], argTypes := #[60, 60] }, type := 60, pos := "base.go:439", after := #[{ on := 0, ground := Ground.data }, { on := 3, ground := Ground.data }], guard := none }) rfl (fun K hK => ?_) (AllReadyH.cons (o := { dst := some 57, op := Op.buildSlice 60 1 #[(0, Operand.tmp 56)], type := 60, pos := "base.go:439", after := #[{ on := 5, ground := Ground.data }], guard := none }) rfl (fun K hK => ?_) AllReadyH.nil)
              · skip
                rw [if_pos (by kernel_rfl)]
                refine wp_append_part (.tmp 51) (.tmp 54) (by kernel_rfl) Tryz.underlying60 hi0 hz0 hz1 hz2 rfl (by omega) (by kernel_rfl) (World.ownsRow_nil _ _ _ _) (by kernel_rfl) (show Part _ 1 xl k ((strs o).take (k * 1)) by rw [unhide HXL]; exact part_lo hS.1 hkm) (fun u hu => strs_one o u (List.mem_of_mem_take hu)) (by unfold maxLen; omega) (by omega) hS.2.size ?_
                intro v1 W1 ho1 hg1 ha1
                have hS1 := keepN hS hg1
                have hd1 := keepE hS ha1
                refine hK.out _ _ hS1 (fun _ => ?_)
                clear hK K
                refine wpAnyH_ready (rs := [6]) (by kernel_rfl) (by simp) ?_
                refine AllReadyH.cons (o := { dst := some 57, op := Op.buildSlice 60 1 #[(0, Operand.tmp 56)], type := 60, pos := "base.go:439", after := #[{ on := 5, ground := Ground.data }], guard := none }) rfl (fun K hK => ?_) AllReadyH.nil
                rw [if_pos (by kernel_rfl)]
                go_simp
                have hS2 := LS.alloc hS1 (.cells #[.string s] 9)
                have hp6 := part_new W1 s
                replace ho1 := own_new ho1 (.cells #[.string s] 9)
                refine hK.out _ _ hS2 (fun _ => ?_)
                clear hK K
                refine wpAnyH_ready (rs := [7]) (by kernel_rfl) (by simp) ?_
                refine AllReadyH.cons (o := { dst := some 58, op := Op.call { callee := Callee.builtin Builtin.append, args := #[Operand.tmp 55, Operand.tmp 57], argTypes := #[60, 60] }, type := 60, pos := "base.go:439", after := #[{ on := 4, ground := Ground.data }, { on := 6, ground := Ground.data }, { on := 4, ground := Ground.chain }], guard := none }) rfl (fun K hK => ?_) AllReadyH.nil
                rw [if_pos (by kernel_rfl)]
                refine wp_append_part (.tmp 55) (.tmp 57) (by kernel_rfl) Tryz.underlying60 hi0 hz0 hz1 hz2 rfl (by omega) (by kernel_rfl) ho1 (by kernel_rfl) hp6 (one_str s) (by unfold maxLen; omega) (by omega) hS2.2.size ?_
                intro v2 W3 ho2 hg2 ha2
                have hS3 := keepS hS2 ho1 hd1 hg2
                have hd2 := keepD hS2 hd1 ha2
                refine hK.out _ _ hS3 (fun _ => ?_)
                clear hK K
                refine wpAnyH_ready (rs := [11]) (by kernel_rfl) (by simp) ?_
                refine AllReadyH.cons (o := { dst := some 62, op := Op.call { callee := Callee.builtin Builtin.append, args := #[Operand.tmp 58, Operand.tmp 61], argTypes := #[60, 60] }, type := 60, pos := "base.go:439", after := #[{ on := 7, ground := Ground.data }, { on := 10, ground := Ground.data }, { on := 7, ground := Ground.chain }], guard := none }) rfl (fun K hK => ?_) AllReadyH.nil
                rw [if_pos (by kernel_rfl)]
                refine wp_append_part (.tmp 58) (.tmp 61) (by kernel_rfl) Tryz.underlying60 hi0 hz0 hz1 hz2 rfl (by omega) (by kernel_rfl) ho2 (by kernel_rfl) (show Part _ 1 xh (m - k) ((strs o).drop (k * 1)) by rw [unhide HXH]; exact part_hi hS3.1 hkm) (fun u hu => strs_one o u (List.mem_of_mem_drop hu)) (by unfold maxLen; omega) (by omega) hS3.2.size ?_
                intro v3 W4 ho3 hg3 _
                have hS4 := keepS hS3 ho2 hd2 hg3
                refine hK.out _ _ hS4 (fun _ => ?_)
                clear hK K
                refine wpAnyH_take (i := 12) (oi := { dst := some 8, op := Op.assign (Operand.tmp 62), type := 60, pos := "base.go:439", after := #[{ on := 11, ground := Ground.data }, { on := 11, ground := Ground.chain }, { on := 0, ground := Ground.phase }, { on := 1, ground := Ground.phase }, { on := 2, ground := Ground.phase }, { on := 3, ground := Ground.phase }, { on := 4, ground := Ground.phase }, { on := 5, ground := Ground.phase }, { on := 6, ground := Ground.phase }, { on := 7, ground := Ground.phase }, { on := 8, ground := Ground.phase }, { on := 9, ground := Ground.phase }, { on := 10, ground := Ground.phase }, { on := 11, ground := Ground.phase }], guard := none }) (v := v3) rfl (by kernel_rfl) (by kernel_rfl) (by kernel_rfl) (fun _ _ _ h => h) (Or.inl ⟨by kernel_rfl, fun W h => (by kernel_rfl)⟩) hS4 ?_
                refine wpAnyH_done (by kernel_rfl) ?_ _
                simp only [Act.put, List.setIfInBounds_toArray, List.set_cons_zero, List.set_cons_succ]
                have HF := hide (list_ends hpl hkm (unhide HM) hS4 ho3 (unhide MORE))
                clear hS4 ho3 hS3 ho2 hg2 hg3 hd2 ha2
                go_wp2_with fail
                go_roundw
                case rel => exact ⟨kk + 1, by omega, by go_num, unhide HF⟩
                case measure => simp [intOf]; omega
              · skip
                rw [if_pos (by kernel_rfl)]
                go_simp
                have hS1 := LS.alloc hS (.cells #[.string s] 9)
                have hp5 := part_new W0 s
                refine hK.out _ _ hS1 (fun _ => ?_)
                clear hK K
                refine wpAnyH_ready (rs := [4]) (by kernel_rfl) (by simp) ?_
                refine AllReadyH.cons (o := { dst := some 55, op := Op.call { callee := Callee.builtin Builtin.append, args := #[Operand.tmp 51, Operand.tmp 54], argTypes := #[60, 60] }, type := 60, pos := "base.go:439", after := #[{ on := 0, ground := Ground.data }, { on := 3, ground := Ground.data }], guard := none }) rfl (fun K hK => ?_) AllReadyH.nil
                rw [if_pos (by kernel_rfl)]
                refine wp_append_part (.tmp 51) (.tmp 54) (by kernel_rfl) Tryz.underlying60 hi0 hz0 hz1 hz2 rfl (by omega) (by kernel_rfl) (World.ownsRow_nil _ _ _ _) (by kernel_rfl) (show Part _ 1 xl k ((strs o).take (k * 1)) by rw [unhide HXL]; exact part_lo hS1.1 hkm) (fun u hu => strs_one o u (List.mem_of_mem_take hu)) (by unfold maxLen; omega) (by omega) hS1.2.size ?_
                intro v1 W2 ho1 hg1 ha1
                have hS2 := keepN hS1 hg1
                have hd1 := keepE hS1 ha1
                have hp6 := hp5.grown (B := 0) (fun j hj _ => hg1.block j hj (by intro h; cases h)) (Nat.zero_le _) (by simp)
                refine hK.out _ _ hS2 (fun _ => ?_)
                clear hK K
                refine wpAnyH_ready (rs := [7]) (by kernel_rfl) (by simp) ?_
                refine AllReadyH.cons (o := { dst := some 58, op := Op.call { callee := Callee.builtin Builtin.append, args := #[Operand.tmp 55, Operand.tmp 57], argTypes := #[60, 60] }, type := 60, pos := "base.go:439", after := #[{ on := 4, ground := Ground.data }, { on := 6, ground := Ground.data }, { on := 4, ground := Ground.chain }], guard := none }) rfl (fun K hK => ?_) AllReadyH.nil
                rw [if_pos (by kernel_rfl)]
                refine wp_append_part (.tmp 55) (.tmp 57) (by kernel_rfl) Tryz.underlying60 hi0 hz0 hz1 hz2 rfl (by omega) (by kernel_rfl) ho1 (by kernel_rfl) hp6 (one_str s) (by unfold maxLen; omega) (by omega) hS2.2.size ?_
                intro v2 W3 ho2 hg2 ha2
                have hS3 := keepS hS2 ho1 hd1 hg2
                have hd2 := keepD hS2 hd1 ha2
                refine hK.out _ _ hS3 (fun _ => ?_)
                clear hK K
                refine wpAnyH_ready (rs := [11]) (by kernel_rfl) (by simp) ?_
                refine AllReadyH.cons (o := { dst := some 62, op := Op.call { callee := Callee.builtin Builtin.append, args := #[Operand.tmp 58, Operand.tmp 61], argTypes := #[60, 60] }, type := 60, pos := "base.go:439", after := #[{ on := 7, ground := Ground.data }, { on := 10, ground := Ground.data }, { on := 7, ground := Ground.chain }], guard := none }) rfl (fun K hK => ?_) AllReadyH.nil
                rw [if_pos (by kernel_rfl)]
                refine wp_append_part (.tmp 58) (.tmp 61) (by kernel_rfl) Tryz.underlying60 hi0 hz0 hz1 hz2 rfl (by omega) (by kernel_rfl) ho2 (by kernel_rfl) (show Part _ 1 xh (m - k) ((strs o).drop (k * 1)) by rw [unhide HXH]; exact part_hi hS3.1 hkm) (fun u hu => strs_one o u (List.mem_of_mem_drop hu)) (by unfold maxLen; omega) (by omega) hS3.2.size ?_
                intro v3 W4 ho3 hg3 _
                have hS4 := keepS hS3 ho2 hd2 hg3
                refine hK.out _ _ hS4 (fun _ => ?_)
                clear hK K
                refine wpAnyH_take (i := 12) (oi := { dst := some 8, op := Op.assign (Operand.tmp 62), type := 60, pos := "base.go:439", after := #[{ on := 11, ground := Ground.data }, { on := 11, ground := Ground.chain }, { on := 0, ground := Ground.phase }, { on := 1, ground := Ground.phase }, { on := 2, ground := Ground.phase }, { on := 3, ground := Ground.phase }, { on := 4, ground := Ground.phase }, { on := 5, ground := Ground.phase }, { on := 6, ground := Ground.phase }, { on := 7, ground := Ground.phase }, { on := 8, ground := Ground.phase }, { on := 9, ground := Ground.phase }, { on := 10, ground := Ground.phase }, { on := 11, ground := Ground.phase }], guard := none }) (v := v3) rfl (by kernel_rfl) (by kernel_rfl) (by kernel_rfl) (fun _ _ _ h => h) (Or.inl ⟨by kernel_rfl, fun W h => (by kernel_rfl)⟩) hS4 ?_
                refine wpAnyH_done (by kernel_rfl) ?_ _
                simp only [Act.put, List.setIfInBounds_toArray, List.set_cons_zero, List.set_cons_succ]
                have HF := hide (list_ends hpl hkm (unhide HM) hS4 ho3 (unhide MORE))
                clear hS4 ho3 hS3 ho2 hg2 hg3 hd2 ha2
                go_wp2_with fail
                go_roundw
                case rel => exact ⟨kk + 1, by omega, by go_num, unhide HF⟩
                case measure => simp [intOf]; omega
            · have W := hide (unhide NX (by rw [unhide EL, h2]))
              clear NX YES HA EL
              go_wp2_with fail
              try (go_quiet (fail); go_wp2_with fail)
              go_roundw
              case rel => exact ⟨k + 1, by omega, by go_num, W, trivial⟩
              case measure => simp [intOf]; omega
          · have tk : decide ((k : Int) < (m : Int)) = false := by simp; omega
            have hpl : plN o s = k := plN_at (by have := unhide HM; omega) (unhide HA) (fun hj => by have := unhide HM; omega)
            clear HA
            go_wp2_with fail
            try (go_quiet (fail); go_wp2_with fail)
            obtain ⟨xl, hxl⟩ : ∃ x, x = sliced a 0 k cap 1 := ⟨_, rfl⟩
            obtain ⟨xh, hxh⟩ : ∃ x, x = sliced a k m cap 1 := ⟨_, rfl⟩
            have HXL := hide hxl
            have HXH := hide hxh
            clear hxl hxh
            refine wp_region_held_drew (S := LS w a m cap o) (by kernel_rfl) (LS.draw hS0) (fun hS => ?_)
            refine wpAnyH_take (i := 0) (oi := { dst := some 51, op := Op.move (Operand.tmp 8), type := 60, pos := "base.go:439", after := #[], guard := none }) (v := .slice none 0 0) rfl (by kernel_rfl) (by kernel_rfl) (by kernel_rfl) (fun _ _ _ h => h) (Or.inl ⟨by kernel_rfl, fun W h => (by first | kernel_rfl | go_simp)⟩) hS ?_
            refine wpAnyH_take (i := 1) (oi := { dst := some 52, op := Op.move (Operand.tmp 5), type := 60, pos := "base.go:439", after := #[], guard := none }) (v := .slice a m cap) rfl (by kernel_rfl) (by kernel_rfl) (by kernel_rfl) (fun _ _ _ h => h) (Or.inl ⟨by kernel_rfl, fun W h => (by first | kernel_rfl | go_simp)⟩) hS ?_
            refine wpAnyH_take (i := 2) (oi := { dst := some 53, op := Op.move (Operand.tmp 9), type := 3, pos := "base.go:439", after := #[], guard := none }) (v := .int .i64 k) rfl (by kernel_rfl) (by kernel_rfl) (by kernel_rfl) (fun _ _ _ h => h) (Or.inl ⟨by kernel_rfl, fun W h => (by first | kernel_rfl | go_simp)⟩) hS ?_
            refine wpAnyH_take (i := 3) (oi := { dst := some 54, op := Op.slice 60 (Operand.tmp 52) none (some (Operand.tmp 53)) none, type := 60, pos := "base.go:439", after := #[{ on := 1, ground := Ground.data }, { on := 2, ground := Ground.data }], guard := none }) (v := xl) rfl (by kernel_rfl) (by kernel_rfl) (by kernel_rfl) (fun _ _ _ h => h) (Or.inl ⟨by kernel_rfl, fun W h => (by rw [unhide HXL]; exact run_exec_cut_lo (m := m) (.tmp 52) (.tmp 53) 60 (by kernel_rfl) (by kernel_rfl) (by kernel_rfl) (by omega) Tryz.underlying60 (by kernel_rfl) W)⟩) hS ?_
            refine wpAnyH_take (i := 5) (oi := { dst := some 56, op := Op.move (Operand.tmp 7), type := 9, pos := "base.go:439", after := #[], guard := none }) (v := .string s) rfl (by kernel_rfl) (by kernel_rfl) (by kernel_rfl) (fun _ _ _ h => h) (Or.inl ⟨by kernel_rfl, fun W h => (by first | kernel_rfl | go_simp)⟩) hS ?_
            refine wpAnyH_take (i := 8) (oi := { dst := some 59, op := Op.move (Operand.tmp 5), type := 60, pos := "base.go:439", after := #[], guard := none }) (v := .slice a m cap) rfl (by kernel_rfl) (by kernel_rfl) (by kernel_rfl) (fun _ _ _ h => h) (Or.inl ⟨by kernel_rfl, fun W h => (by first | kernel_rfl | go_simp)⟩) hS ?_
            refine wpAnyH_take (i := 9) (oi := { dst := some 60, op := Op.move (Operand.tmp 9), type := 3, pos := "base.go:439", after := #[], guard := none }) (v := .int .i64 k) rfl (by kernel_rfl) (by kernel_rfl) (by kernel_rfl) (fun _ _ _ h => h) (Or.inl ⟨by kernel_rfl, fun W h => (by first | kernel_rfl | go_simp)⟩) hS ?_
            refine wpAnyH_take (i := 10) (oi := { dst := some 61, op := Op.slice 60 (Operand.tmp 59) (some (Operand.tmp 60)) none none, type := 60, pos := "base.go:439", after := #[{ on := 8, ground := Ground.data }, { on := 9, ground := Ground.data }], guard := none }) (v := xh) rfl (by kernel_rfl) (by kernel_rfl) (by kernel_rfl) (fun _ _ _ h => h) (Or.inl ⟨by kernel_rfl, fun W h => (by rw [unhide HXH]; exact run_exec_cut_hi (m := m) (.tmp 59) (.tmp 60) 60 (by kernel_rfl) (by kernel_rfl) (by kernel_rfl) hkm Tryz.underlying60 (by kernel_rfl) W)⟩) hS ?_
            generalize World.drew _ = W0 at hS ⊢
            refine wpAnyH_ready (rs := [4, 6]) (by kernel_rfl) (by simp) ?_
            refine AllReadyH.cons (o := { dst := some 55, op := Op.call { callee := Callee.builtin Builtin.append, args := #[Operand.tmp 51, Operand.tmp 54], argTypes := #[60, 60] }, type := 60, pos := "base.go:439", after := #[{ on := 0, ground := Ground.data }, { on := 3, ground := Ground.data }], guard := none }) rfl (fun K hK => ?_) (AllReadyH.cons (o := { dst := some 57, op := Op.buildSlice 60 1 #[(0, Operand.tmp 56)], type := 60, pos := "base.go:439", after := #[{ on := 5, ground := Ground.data }], guard := none }) rfl (fun K hK => ?_) AllReadyH.nil)
            · skip
              rw [if_pos (by kernel_rfl)]
              refine wp_append_part (.tmp 51) (.tmp 54) (by kernel_rfl) Tryz.underlying60 hi0 hz0 hz1 hz2 rfl (by omega) (by kernel_rfl) (World.ownsRow_nil _ _ _ _) (by kernel_rfl) (show Part _ 1 xl k ((strs o).take (k * 1)) by rw [unhide HXL]; exact part_lo hS.1 hkm) (fun u hu => strs_one o u (List.mem_of_mem_take hu)) (by unfold maxLen; omega) (by omega) hS.2.size ?_
              intro v1 W1 ho1 hg1 ha1
              have hS1 := keepN hS hg1
              have hd1 := keepE hS ha1
              refine hK.out _ _ hS1 (fun _ => ?_)
              clear hK K
              refine wpAnyH_ready (rs := [6]) (by kernel_rfl) (by simp) ?_
              refine AllReadyH.cons (o := { dst := some 57, op := Op.buildSlice 60 1 #[(0, Operand.tmp 56)], type := 60, pos := "base.go:439", after := #[{ on := 5, ground := Ground.data }], guard := none }) rfl (fun K hK => ?_) AllReadyH.nil
              rw [if_pos (by kernel_rfl)]
              go_simp
              have hS2 := LS.alloc hS1 (.cells #[.string s] 9)
              have hp6 := part_new W1 s
              replace ho1 := own_new ho1 (.cells #[.string s] 9)
              refine hK.out _ _ hS2 (fun _ => ?_)
              clear hK K
              refine wpAnyH_ready (rs := [7]) (by kernel_rfl) (by simp) ?_
              refine AllReadyH.cons (o := { dst := some 58, op := Op.call { callee := Callee.builtin Builtin.append, args := #[Operand.tmp 55, Operand.tmp 57], argTypes := #[60, 60] }, type := 60, pos := "base.go:439", after := #[{ on := 4, ground := Ground.data }, { on := 6, ground := Ground.data }, { on := 4, ground := Ground.chain }], guard := none }) rfl (fun K hK => ?_) AllReadyH.nil
              rw [if_pos (by kernel_rfl)]
              refine wp_append_part (.tmp 55) (.tmp 57) (by kernel_rfl) Tryz.underlying60 hi0 hz0 hz1 hz2 rfl (by omega) (by kernel_rfl) ho1 (by kernel_rfl) hp6 (one_str s) (by unfold maxLen; omega) (by omega) hS2.2.size ?_
              intro v2 W3 ho2 hg2 ha2
              have hS3 := keepS hS2 ho1 hd1 hg2
              have hd2 := keepD hS2 hd1 ha2
              refine hK.out _ _ hS3 (fun _ => ?_)
              clear hK K
              refine wpAnyH_ready (rs := [11]) (by kernel_rfl) (by simp) ?_
              refine AllReadyH.cons (o := { dst := some 62, op := Op.call { callee := Callee.builtin Builtin.append, args := #[Operand.tmp 58, Operand.tmp 61], argTypes := #[60, 60] }, type := 60, pos := "base.go:439", after := #[{ on := 7, ground := Ground.data }, { on := 10, ground := Ground.data }, { on := 7, ground := Ground.chain }], guard := none }) rfl (fun K hK => ?_) AllReadyH.nil
              rw [if_pos (by kernel_rfl)]
              refine wp_append_part (.tmp 58) (.tmp 61) (by kernel_rfl) Tryz.underlying60 hi0 hz0 hz1 hz2 rfl (by omega) (by kernel_rfl) ho2 (by kernel_rfl) (show Part _ 1 xh (m - k) ((strs o).drop (k * 1)) by rw [unhide HXH]; exact part_hi hS3.1 hkm) (fun u hu => strs_one o u (List.mem_of_mem_drop hu)) (by unfold maxLen; omega) (by omega) hS3.2.size ?_
              intro v3 W4 ho3 hg3 _
              have hS4 := keepS hS3 ho2 hd2 hg3
              refine hK.out _ _ hS4 (fun _ => ?_)
              clear hK K
              refine wpAnyH_take (i := 12) (oi := { dst := some 8, op := Op.assign (Operand.tmp 62), type := 60, pos := "base.go:439", after := #[{ on := 11, ground := Ground.data }, { on := 11, ground := Ground.chain }, { on := 0, ground := Ground.phase }, { on := 1, ground := Ground.phase }, { on := 2, ground := Ground.phase }, { on := 3, ground := Ground.phase }, { on := 4, ground := Ground.phase }, { on := 5, ground := Ground.phase }, { on := 6, ground := Ground.phase }, { on := 7, ground := Ground.phase }, { on := 8, ground := Ground.phase }, { on := 9, ground := Ground.phase }, { on := 10, ground := Ground.phase }, { on := 11, ground := Ground.phase }], guard := none }) (v := v3) rfl (by kernel_rfl) (by kernel_rfl) (by kernel_rfl) (fun _ _ _ h => h) (Or.inl ⟨by kernel_rfl, fun W h => (by kernel_rfl)⟩) hS4 ?_
              refine wpAnyH_done (by kernel_rfl) ?_ _
              simp only [Act.put, List.setIfInBounds_toArray, List.set_cons_zero, List.set_cons_succ]
              have HF := hide (list_ends hpl hkm (unhide HM) hS4 ho3 (unhide MORE))
              clear hS4 ho3 hS3 ho2 hg2 hg3 hd2 ha2
              go_wp2_with fail
              go_roundw
              case rel => exact ⟨kk + 1, by omega, by go_num, unhide HF⟩
              case measure => simp [intOf]; omega
            · skip
              rw [if_pos (by kernel_rfl)]
              go_simp
              have hS1 := LS.alloc hS (.cells #[.string s] 9)
              have hp5 := part_new W0 s
              refine hK.out _ _ hS1 (fun _ => ?_)
              clear hK K
              refine wpAnyH_ready (rs := [4]) (by kernel_rfl) (by simp) ?_
              refine AllReadyH.cons (o := { dst := some 55, op := Op.call { callee := Callee.builtin Builtin.append, args := #[Operand.tmp 51, Operand.tmp 54], argTypes := #[60, 60] }, type := 60, pos := "base.go:439", after := #[{ on := 0, ground := Ground.data }, { on := 3, ground := Ground.data }], guard := none }) rfl (fun K hK => ?_) AllReadyH.nil
              rw [if_pos (by kernel_rfl)]
              refine wp_append_part (.tmp 51) (.tmp 54) (by kernel_rfl) Tryz.underlying60 hi0 hz0 hz1 hz2 rfl (by omega) (by kernel_rfl) (World.ownsRow_nil _ _ _ _) (by kernel_rfl) (show Part _ 1 xl k ((strs o).take (k * 1)) by rw [unhide HXL]; exact part_lo hS1.1 hkm) (fun u hu => strs_one o u (List.mem_of_mem_take hu)) (by unfold maxLen; omega) (by omega) hS1.2.size ?_
              intro v1 W2 ho1 hg1 ha1
              have hS2 := keepN hS1 hg1
              have hd1 := keepE hS1 ha1
              have hp6 := hp5.grown (B := 0) (fun j hj _ => hg1.block j hj (by intro h; cases h)) (Nat.zero_le _) (by simp)
              refine hK.out _ _ hS2 (fun _ => ?_)
              clear hK K
              refine wpAnyH_ready (rs := [7]) (by kernel_rfl) (by simp) ?_
              refine AllReadyH.cons (o := { dst := some 58, op := Op.call { callee := Callee.builtin Builtin.append, args := #[Operand.tmp 55, Operand.tmp 57], argTypes := #[60, 60] }, type := 60, pos := "base.go:439", after := #[{ on := 4, ground := Ground.data }, { on := 6, ground := Ground.data }, { on := 4, ground := Ground.chain }], guard := none }) rfl (fun K hK => ?_) AllReadyH.nil
              rw [if_pos (by kernel_rfl)]
              refine wp_append_part (.tmp 55) (.tmp 57) (by kernel_rfl) Tryz.underlying60 hi0 hz0 hz1 hz2 rfl (by omega) (by kernel_rfl) ho1 (by kernel_rfl) hp6 (one_str s) (by unfold maxLen; omega) (by omega) hS2.2.size ?_
              intro v2 W3 ho2 hg2 ha2
              have hS3 := keepS hS2 ho1 hd1 hg2
              have hd2 := keepD hS2 hd1 ha2
              refine hK.out _ _ hS3 (fun _ => ?_)
              clear hK K
              refine wpAnyH_ready (rs := [11]) (by kernel_rfl) (by simp) ?_
              refine AllReadyH.cons (o := { dst := some 62, op := Op.call { callee := Callee.builtin Builtin.append, args := #[Operand.tmp 58, Operand.tmp 61], argTypes := #[60, 60] }, type := 60, pos := "base.go:439", after := #[{ on := 7, ground := Ground.data }, { on := 10, ground := Ground.data }, { on := 7, ground := Ground.chain }], guard := none }) rfl (fun K hK => ?_) AllReadyH.nil
              rw [if_pos (by kernel_rfl)]
              refine wp_append_part (.tmp 58) (.tmp 61) (by kernel_rfl) Tryz.underlying60 hi0 hz0 hz1 hz2 rfl (by omega) (by kernel_rfl) ho2 (by kernel_rfl) (show Part _ 1 xh (m - k) ((strs o).drop (k * 1)) by rw [unhide HXH]; exact part_hi hS3.1 hkm) (fun u hu => strs_one o u (List.mem_of_mem_drop hu)) (by unfold maxLen; omega) (by omega) hS3.2.size ?_
              intro v3 W4 ho3 hg3 _
              have hS4 := keepS hS3 ho2 hd2 hg3
              refine hK.out _ _ hS4 (fun _ => ?_)
              clear hK K
              refine wpAnyH_take (i := 12) (oi := { dst := some 8, op := Op.assign (Operand.tmp 62), type := 60, pos := "base.go:439", after := #[{ on := 11, ground := Ground.data }, { on := 11, ground := Ground.chain }, { on := 0, ground := Ground.phase }, { on := 1, ground := Ground.phase }, { on := 2, ground := Ground.phase }, { on := 3, ground := Ground.phase }, { on := 4, ground := Ground.phase }, { on := 5, ground := Ground.phase }, { on := 6, ground := Ground.phase }, { on := 7, ground := Ground.phase }, { on := 8, ground := Ground.phase }, { on := 9, ground := Ground.phase }, { on := 10, ground := Ground.phase }, { on := 11, ground := Ground.phase }], guard := none }) (v := v3) rfl (by kernel_rfl) (by kernel_rfl) (by kernel_rfl) (fun _ _ _ h => h) (Or.inl ⟨by kernel_rfl, fun W h => (by kernel_rfl)⟩) hS4 ?_
              refine wpAnyH_done (by kernel_rfl) ?_ _
              simp only [Act.put, List.setIfInBounds_toArray, List.set_cons_zero, List.set_cons_succ]
              have HF := hide (list_ends hpl hkm (unhide HM) hS4 ho3 (unhide MORE))
              clear hS4 ho3 hS3 ho2 hg2 hg3 hd2 ha2
              go_wp2_with fail
              go_roundw
              case rel => exact ⟨kk + 1, by omega, by go_num, unhide HF⟩
              case measure => simp [intOf]; omega
      · have hin : ¬ dd = d := by simpa using h1
        rw [if_neg hin] at MORE
        clear hin
        go_wp2_with fail
        try (go_quiet (fail); go_wp2_with fail)
        go_roundw
        case rel => exact ⟨kk + 1, by omega, by go_num, a, m, cap, o, rfl, hmc, (unhide MORE).symm, unhide HM, hS0⟩
        case measure => simp [intOf]; omega
    · have tn : decide ((kk : Int) < (n : Int)) = false := by simp; omega
      have ek : kk = n := by omega
      go_wp2_with fail
      go_ret
      refine ⟨_, rfl, ?_, hS0.2⟩
      have := hS0.1
      rw [ek, unhide HD] at ho
      rw [← ho, ← hm]
      exact this
end Idl
end Go.Proofs.YtmlhalhjfcfagabGreat
namespace Go.Proofs.YtmlhalhjfcfagabGreat
open Go.RowKit
namespace Idl
theorem IRd.below {w w' : World} {b : Nat} {S : St} {l : List Tg} {ta fa : Option Addr} {tc fc : Nat} (h : IRd w b S l ta fa tc fc) (hb : Below w.heap.size w w') : IRd w' b S l ta fa tc fc := by
  have key : ∀ g o, g < w.heap.size → w'.cell? ⟨g, o, none⟩ = w.cell? ⟨g, o, none⟩ := fun g o hg => hb.cell (p := ⟨g, o, none⟩) hg
  refine ⟨Nat.lt_of_lt_of_le h.lt hb.size, by rw [key _ _ h.lt]; exact h.tv, by rw [key _ _ h.lt]; exact h.fv, h.few, h.many, fun i hi => ?_, fun i hi => ?_⟩
  · obtain ⟨g, o, e, hg, c0, c1, c2⟩ := h.tags i hi
    exact ⟨g, o, e, Nat.lt_of_lt_of_le hg hb.size, by rw [key _ _ hg]; exact c0, by rw [key _ _ hg]; exact c1, by rw [key _ _ hg]; exact c2⟩
  · obtain ⟨g, o, e, hg, c0, c1⟩ := h.files i hi
    exact ⟨g, o, e, Nat.lt_of_lt_of_le hg hb.size, fun p hp => by rw [key _ _ hg]; exact c0 p hp, fun p hp => by rw [key _ _ hg]; exact c1 p hp⟩
/-- what Read answers -/
def readIs (S : St) (d : Int) (s : ByteArray) (p : Int) (e : Ending) : Prop := e = .returned (.tuple #[.string (rdT S d s p), .bool (rdB S d s p), .int .i64 (code S (cut d s p))])
set_option maxRecDepth 100000 in
set_option maxHeartbeats 4000000 in
theorem rRead_any {b : Nat} {S : St} {l : List Tg} {ta fa : Option Addr} {tc fc : Nat} (hT : Tags S l) (hI : Inv S) (d : Int) (s : ByteArray) (hs : s.size ≤ maxLen) (p : Int) (w : World) (h : IRd w b S l ta fa tc fc) :
    Calls Tryz.prog 33 #[.pointer (some ⟨b, 0, none⟩), .int .i64 d, .string s, .int .i64 p] w fun e w' => readIs S d s p e ∧ Below w.heap.size w w' := by
  have C1 := hide (stepFault_any (cut d s p) hs (Nat.zero_le _) (Nat.zero_le _) w)
  have H := hide h
  clear h
  have hck0 : stpA (cut d s p) = #[.int .i64 6, .int .i64 d, .int .i64 0, .int .i64 p, .string s, .string ⟨#[]⟩, .string ⟨#[]⟩] := rfl
  rw [hck0] at C1
  clear hck0
  by_cases hc : chk (cut d s p) = 0
  · rw [hc] at C1
    have hpp := (chk_zero hc).2.2.2.2.1 (.inr rfl)
    have hp0 : 0 ≤ p := hpp.1
    have hp2 : p < 2 := hpp.2
    rcases atI_lookS hT d s with ⟨a1, a2⟩ | ⟨i, hi, _, a1, a2⟩
    · have e2 : lookS S (cut d s p).dir (cut d s p).name = none := a2
      have hcode : code S (cut d s p) = 5 := by
        unfold code
        rw [if_neg (by omega), e2]
        rfl
      have E := hide (show rdT S d s p = none0 ∧ rdB S d s p = false ∧ code S (cut d s p) = 5 from ⟨by unfold rdT; rw [if_pos (by omega)], by unfold rdB; rw [if_pos (by omega)], hcode⟩)
      unfold readIs
      rw [(unhide E).1, (unhide E).2.1, (unhide E).2.2]
      clear E hcode hc a2 e2 hpp hp0 hp2
      go_enter Tryz.func33, Tryz.ntmps33
      go_wp2_with fail
      refine (unhide C1).mono ?_
      rintro e w1 ⟨rfl, hb1⟩
      have C2 := hide (rAt_any d s w1 ((unhide H).below hb1))
      rw [a1] at C2
      clear a1
      go_wp2_with fail
      refine (unhide C2).mono ?_
      rintro e w2 ⟨rfl, q, rfl⟩
      go_wp2_with fail
      go_ret3
      exact ⟨rfl, belowN hb1⟩
    · have e2 : lookS S (cut d s p).dir (cut d s p).name = some l[i].file := a2
      have hcode : code S (cut d s p) = 0 := by
        unfold code
        rw [if_neg (by omega), e2]
        rfl
      have hthe : the S (cut d s p) = l[i].file := by unfold the; rw [e2]; rfl
      have hnx : l[i].file < S.next := by
        have hd : isD d = true := by
          cases e : isD d
          · unfold lookS at a2; rw [e] at a2; cases a2
          · rfl
        rw [lookS_in hd] at a2
        exact old_lt hI a2
      have E := hide (show rdT S d s p = S.txt l[i].file p.toNat ∧ rdB S d s p = S.has l[i].file p.toNat ∧ code S (cut d s p) = 0 from ⟨by unfold rdT; rw [if_neg (by omega), hthe], by unfold rdB; rw [if_neg (by omega), hthe], hcode⟩)
      unfold readIs
      rw [(unhide E).1, (unhide E).2.1, (unhide E).2.2]
      obtain ⟨pp, rfl⟩ := Int.eq_ofNat_of_zero_le hp0
      have hpn : pp < 2 := by omega
      rw [Int.toNat_natCast]
      obtain ⟨fn, hfn⟩ : ∃ fn, fn = l[i].file := ⟨_, rfl⟩
      rw [← hfn] at hnx ⊢
      clear E hcode hc a2 e2 hthe hpp hp0
      have hp01 : pp = 0 ∨ pp = 1 := by omega
      clear hpn hp2
      rcases hp01 with rfl | rfl
      all_goals
       go_enter Tryz.func33, Tryz.ntmps33
       go_wp2_with fail
       refine (unhide C1).mono ?_
       rintro e w1 ⟨rfl, hb1⟩
       have H1 := hide ((unhide H).below hb1)
       have C2 := hide (rAt_any d s w1 (unhide H1))
       rw [a1] at C2
       clear a1
       go_wp2_with fail
       refine (unhide C2).mono ?_
       rintro e w2 ⟨rfl, q, rfl⟩
       have H2 := hide ((unhide H1).draw q)
       have hb2 : Below w.heap.size w (w1.drewN q) := belowN hb1
       generalize w1.drewN q = W at H2 hb2 ⊢
       have tv := (unhide H2).tv
       have fv := (unhide H2).fv
       have few := (unhide H2).few
       have many := (unhide H2).many
       have lt := (unhide H2).lt
       obtain ⟨g, o, rfl, hg, _, _, c2⟩ := (unhide H2).tags i hi
       obtain ⟨gf, og, rfl, hgf, f1, f2⟩ := (unhide H2).files fn hnx
       rw [← hfn] at c2
       obtain ⟨n, hn⟩ : ∃ n, n = l.length := ⟨_, rfl⟩
       obtain ⟨nf, hnf⟩ : ∃ nf, nf = S.next := ⟨_, rfl⟩
       have f10 : W.cell? ⟨gf, og + fn * 4, none⟩ = some (.bool (S.has fn 0)) := f1 0 (by omega)
       have f11 : W.cell? ⟨gf, og + fn * 4 + 1, none⟩ = some (.bool (S.has fn 1)) := f1 1 (by omega)
       have f20 : W.cell? ⟨gf, og + fn * 4 + 2, none⟩ = some (.string (S.txt fn 0)) := f2 0 (by omega)
       have f21 : W.cell? ⟨gf, og + fn * 4 + 3, none⟩ = some (.string (S.txt fn 1)) := f2 1 (by omega)
       rw [← hn] at tv few hi
       rw [← hnf] at fv many hnx
       have iz : (i : Int) < (n : Int) := by omega
       have fz : (fn : Int) < (nf : Int) := by omega
       have hsz := hb2.size
       clear hn hnf hfn f1 f2 C1 C2 H H1 H2 hb1
       have u1 : decide ((i : Int) < 0) = false := by simp
       go_wp2_with fail
       go_region
       all_goals
         go_wp2_with fail
         try (go_quiet (fail); go_wp2_with fail)
         go_ret3
         exact ⟨rfl, by first | exact (hb2.alloc hsz _).drew | exact belowN (hb2.alloc hsz _).drew⟩
  · have hcode : code S (cut d s p) = chk (cut d s p) := by unfold code; rw [if_pos hc]
    have E := hide (show rdT S d s p = none0 ∧ rdB S d s p = false ∧ code S (cut d s p) = chk (cut d s p) from ⟨by unfold rdT; rw [if_pos (by omega)], by unfold rdB; rw [if_pos (by omega)], hcode⟩)
    unfold readIs
    rw [(unhide E).1, (unhide E).2.1, (unhide E).2.2]
    clear E hcode
    generalize chk (cut d s p) = ck at C1 hc
    have u1 : (ck != 0) = true := by simpa using hc
    go_enter Tryz.func33, Tryz.ntmps33
    go_wp2_with fail
    refine (unhide C1).mono ?_
    rintro e w1 ⟨rfl, hb1⟩
    go_wp2_with fail
    go_ret3
    exact ⟨rfl, hb1⟩
end Idl
end Go.Proofs.YtmlhalhjfcfagabGreat
namespace Go.Proofs.YtmlhalhjfcfagabGreat
open Go.RowKit
namespace Idl
/-! rows of elements of a width -/
section
variable {α : Type} {f : α → List Value} {c : Nat}
theorem flat_len (hf : ∀ a, (f a).length = c) : ∀ l : List α, (l.flatMap f).length = l.length * c
  | [] => by simp
  | a :: l => by rw [List.flatMap_cons, List.length_append, hf, flat_len hf l, List.length_cons, Nat.add_mul]; omega
theorem flat_at (hf : ∀ a, (f a).length = c) : ∀ (l : List α) (i : Nat) (hi : i < l.length) (j : Nat) (_ : j < c), (l.flatMap f)[i * c + j]? = (f l[i])[j]?
  | a :: l, 0, _, j, hj => by
    rw [List.flatMap_cons, Nat.zero_mul, Nat.zero_add, List.getElem?_append_left (by rw [hf]; exact hj)]
    rfl
  | a :: l, i + 1, hi, j, hj => by
    have := flat_at hf l i (by simpa using hi) j hj
    rw [List.flatMap_cons, List.getElem?_append_right (by rw [hf, Nat.add_mul]; omega), hf, show (i + 1) * c + j - c = i * c + j by rw [Nat.add_mul]; omega, this]
    rfl
theorem flat_take (hf : ∀ a, (f a).length = c) (l : List α) (i : Nat) (h : i ≤ l.length) : (l.take i).flatMap f = (l.flatMap f).take (i * c) := by
  have e : l.flatMap f = (l.take i).flatMap f ++ (l.drop i).flatMap f := by rw [← List.flatMap_append, List.take_append_drop]
  rw [e, List.take_left' (by rw [flat_len hf, List.length_take, Nat.min_eq_left h])]
theorem flat_drop (hf : ∀ a, (f a).length = c) (l : List α) (i : Nat) (h : i ≤ l.length) : (l.drop i).flatMap f = (l.flatMap f).drop (i * c) := by
  have e : l.flatMap f = (l.take i).flatMap f ++ (l.drop i).flatMap f := by rw [← List.flatMap_append, List.take_append_drop]
  rw [e, List.drop_left' (by rw [flat_len hf, List.length_take, Nat.min_eq_left h])]
end
def tagC (t : Tg) : List Value := [.int .i64 t.dir, .string t.name, .int .i64 (t.file : Nat)]
def filC (S : St) (i : Nat) : List Value := [.bool (S.has i 0), .bool (S.has i 1), .string (S.txt i 0), .string (S.txt i 1)]
theorem tagC_len (t : Tg) : (tagC t).length = 3 := rfl
theorem filC_len (S : St) (i : Nat) : (filC S i).length = 4 := rfl
def cellsT (l : List Tg) : List Value := l.flatMap tagC
def cellsF (S : St) (n : Nat) : List Value := (List.range n).flatMap (filC S)
theorem cellsT_one (l : List Tg) : ∀ u ∈ cellsT l, u.oneCell' = true := fun u hu => by
  obtain ⟨t, _, ht⟩ := List.mem_flatMap.1 hu
  simp only [tagC, List.mem_cons, List.not_mem_nil, or_false] at ht
  rcases ht with rfl | rfl | rfl <;> rfl
theorem cellsF_one (S : St) (n : Nat) : ∀ u ∈ cellsF S n, u.oneCell' = true := fun u hu => by
  obtain ⟨t, _, ht⟩ := List.mem_flatMap.1 hu
  simp only [filC, List.mem_cons, List.not_mem_nil, or_false] at ht
  rcases ht with rfl | rfl | rfl | rfl <;> rfl
theorem cellsT_add (l : List Tg) (t : Tg) : cellsT (l ++ [t]) = cellsT l ++ tagC t := by simp [cellsT]
theorem cellsT_cut (l : List Tg) (i : Nat) (h : i < l.length) : cellsT (l.take i ++ l.drop (i + 1)) = (cellsT l).take (i * 3) ++ (cellsT l).drop ((i + 1) * 3) := by
  unfold cellsT
  rw [List.flatMap_append, flat_take tagC_len l i (by omega), flat_drop tagC_len l (i + 1) (by omega)]
theorem filC_congr {S S' : St} {i : Nat} (h : ∀ p, p < 2 → S'.has i p = S.has i p ∧ S'.txt i p = S.txt i p) : filC S' i = filC S i := by
  unfold filC
  rw [(h 0 (by omega)).1, (h 1 (by omega)).1, (h 0 (by omega)).2, (h 1 (by omega)).2]
theorem cellsF_congr {S S' : St} {n : Nat} (h : ∀ i, i < n → filC S' i = filC S i) : cellsF S' n = cellsF S n := by
  unfold cellsF
  induction n with
  | zero => rfl
  | succ n ih => rw [List.range_succ, List.flatMap_append, List.flatMap_append, ih (fun i hi => h i (by omega))]; simp [h n (by omega)]
theorem cellsF_fresh (S : St) : cellsF S.fresh (S.next + 1) = cellsF S S.next ++ [.bool false, .bool false, .string ⟨#[]⟩, .string ⟨#[]⟩] := by
  have e : cellsF S.fresh (S.next + 1) = cellsF S.fresh S.next ++ filC S.fresh S.next := by unfold cellsF; rw [List.range_succ, List.flatMap_append]; simp
  rw [e, cellsF_congr (S := S) (fun i hi => filC_congr fun p _ => by simp [St.fresh, Nat.ne_of_lt hi])]
  congr 1
  simp [filC, St.fresh, none0]
/-- the reference's world -/
structure IRep (w : World) (b : Nat) (S : St) (l : List Tg) (vt vf : Value) : Prop where
  inv : Inv S
  tags : Tags S l
  root : w.heap[b]? = some (.cells #[vt, vf] 71 (0, 0))
  rowT : w.ownsRow 0 90 3 vt l.length (cellsT l)
  rowF : w.ownsRow 0 100 4 vf S.next (cellsF S S.next)
  offT : vt.ownBlock ≠ some b
  offF : vf.ownBlock ≠ some b
  apart : ∀ k, vt.ownBlock = some k → vf.ownBlock ≠ some k
def iown (b : Nat) (vt vf : Value) (k : Nat) : Prop := k = b ∨ vt.ownBlock = some k ∨ vf.ownBlock = some k
section
variable {w w' : World} {b : Nat} {S : St} {l : List Tg} {vt vf : Value}
theorem IRep.blt (h : IRep w b S l vt vf) : b < w.heap.size := (Array.getElem?_eq_some_iff.1 h.root).1
theorem IRep.lt (h : IRep w b S l vt vf) {k : Nat} (hk : iown b vt vf k) : k < w.heap.size := by
  rcases hk with rfl | hk | hk
  · exact h.blt
  · exact (h.rowT.lt k hk).2
  · exact (h.rowF.lt k hk).2
theorem IRep.keep (h : IRep w b S l vt vf) (hk : ∀ k, iown b vt vf k → w'.heap[k]? = w.heap[k]?) : IRep w' b S l vt vf :=
  ⟨h.inv, h.tags, by rw [hk b (.inl rfl)]; exact h.root, ownsRow_of_block h.rowT (fun k e => hk k (.inr (.inl e))), ownsRow_of_block h.rowF (fun k e => hk k (.inr (.inr e))), h.offT, h.offF, h.apart⟩
theorem IRep.below (h : IRep w b S l vt vf) (hb : Below w.heap.size w w') : IRep w' b S l vt vf := h.keep (fun k hk => hb.block k (h.lt hk))
theorem IRep.other (h : IRep w b S l vt vf) {own2 : Nat → Prop} (hc : Chg own2 w w') (hd : ∀ k, iown b vt vf k → ¬ own2 k) : IRep w' b S l vt vf := h.keep (fun k hk => hc.block k (h.lt hk) (hd k hk))
theorem row_cell {base : Nat} {e : TypeId} {size : Nat} {v : Value} {n : Nat} {xs : List Value} (h : w.ownsRow base e size v n xs) (hn : 0 < n) : ∃ g cap, v = .slice (some ⟨g, 0, none⟩) n cap ∧ g < w.heap.size ∧ ∀ j u, xs[j]? = some u → w.cell? ⟨g, j, none⟩ = some u := by
  rcases h.2 with ⟨_, e0⟩ | ⟨g, cap, cur, rfl, _, hg, _⟩
  · omega
  · refine ⟨g, cap, rfl, (Array.getElem?_eq_some_iff.1 hg).1, fun j u hj => ?_⟩
    have := h.cells (g := g) rfl j u hj
    rwa [Addr.add_lit, Nat.zero_add] at this
theorem IRep.rd (h : IRep w b S l vt vf) (h1 : l.length ≤ 1000000) (h2 : S.next ≤ 1000000) : ∃ ta fa tc fc, vt = .slice ta l.length tc ∧ vf = .slice fa S.next fc ∧ IRd w b S l ta fa tc fc := by
  obtain ⟨ta, tc, rfl, _⟩ := own_form h.rowT
  obtain ⟨fa, fc, rfl, _⟩ := own_form h.rowF
  refine ⟨ta, fa, tc, fc, rfl, rfl, h.blt, ?_, ?_, h1, h2, fun i hi => ?_, fun i hi => ?_⟩
  · rw [cell_of_row w b 0 _ _ _ h.root]; rfl
  · rw [cell_of_row w b 1 _ _ _ h.root]; rfl
  · obtain ⟨g, cap, e, hg, hc⟩ := row_cell h.rowT (by omega)
    simp only [Value.slice.injEq] at e
    have hat := flat_at tagC_len l i hi
    refine ⟨g, 0, e.1, hg, hc _ _ ?_, hc _ _ ?_, hc _ _ ?_⟩
    · rw [Nat.zero_add]; exact hat 0 (by omega)
    · rw [Nat.zero_add]; exact hat 1 (by omega)
    · rw [Nat.zero_add]; exact hat 2 (by omega)
  · obtain ⟨g, cap, e, hg, hc⟩ := row_cell h.rowF (by omega)
    simp only [Value.slice.injEq] at e
    have hat := fun j hj => flat_at (filC_len S) (List.range S.next) i (by simpa using hi) j hj
    rw [List.getElem_range] at hat
    refine ⟨g, 0, e.1, hg, fun p hp => hc _ _ ?_, fun p hp => hc _ _ ?_⟩
    · rw [Nat.zero_add]
      match p, hp with
      | 0, _ => exact hat 0 (by omega)
      | 1, _ => exact hat 1 (by omega)
    · rw [Nat.zero_add]
      match p, hp with
      | 0, _ => exact hat 2 (by omega)
      | 1, _ => exact hat 3 (by omega)
/-- another row of tags is laid into the root -/
theorem IRep.setT (h : IRep w b S l vt vf) {W : World} {row : Option Nat} {v : Value} {S' : St} {l' : List Tg} (hg : w.grownBy W row) (hr : row = none ∨ row = vt.ownBlock)
    (ho : W.ownsRow 0 90 3 v l'.length (cellsT l')) (ha : v.ownBlock = vt.ownBlock ∨ ∀ k, v.ownBlock = some k → w.heap.size ≤ k)
    (hI : Inv S') (hT : Tags S' l') (hn : S'.next = S.next) (hF : cellsF S' S.next = cellsF S S.next) :
    IRep (W.setCell ⟨b, 0, none⟩ v) b S' l' v vf ∧ Chg (iown b vt vf) w (W.setCell ⟨b, 0, none⟩ v) ∧ ∀ k, iown b v vf k → iown b vt vf k ∨ w.heap.size ≤ k := by
  have hbr : some b ≠ row := by
    rcases hr with rfl | rfl
    · intro e; cases e
    · exact fun e => h.offT e.symm
  have hb : W.heap[b]? = some (.cells #[vt, vf] 71 (0, 0)) := by rw [hg.block b h.blt hbr]; exact h.root
  have hoth : ∀ k, k ≠ b → (W.setCell ⟨b, 0, none⟩ v).heap[k]? = W.heap[k]? := fun k hk => Below.heap_setCell _ _ _ _ hk
  have hsz : (W.setCell ⟨b, 0, none⟩ v).heap.size = W.heap.size := by simp [World.setCell]
  have hvb : v.ownBlock ≠ some b := by
    rcases ha with e | e
    · rw [e]; exact h.offT
    · intro e2
      have := e b e2
      have := h.blt
      omega
  have hvf : ∀ k, vf.ownBlock = some k → W.heap[k]? = w.heap[k]? := fun k hk => hg.block k (h.rowF.lt k hk).2 (by
    rcases hr with rfl | rfl
    · intro e; cases e
    · exact fun e => h.apart k e.symm hk)
  refine ⟨⟨hI, hT, ?_, ownsRow_of_block ho (fun k hk => hoth k (fun e => hvb (by rw [← e]; exact hk))), ?_, hvb, h.offF, fun k hk hk2 => ?_⟩, ⟨?_, ?_, ?_, ?_, fun k hk hn2 => ?_⟩, fun k hk => ?_⟩
  · rw [setCell_eq_setRow W b 0 _ _ _ v hb, setRow_heap W b _ _ _ _ hb]
    rfl
  · rw [hn, hF]
    exact ownsRow_of_block h.rowF (fun k hk => by rw [hoth k (fun e => h.offF (by rw [← e]; exact hk)), hvf k hk])
  · rcases ha with e | e
    · exact h.apart k (by rw [← e]; exact hk) hk2
    · have := e k hk
      have := (h.rowF.lt k hk2).2
      omega
  · exact hg.os
  · exact hg.tape
  · exact hg.output
  · rw [hsz]; exact hg.size
  · rw [hoth k (fun e => hn2 (.inl e))]
    refine hg.block k hk ?_
    rcases hr with rfl | rfl
    · intro e; cases e
    · exact fun e => hn2 (.inr (.inl e.symm))
  · rcases hk with e | e | e
    · exact .inl (.inl e)
    · rcases ha with e2 | e2
      · exact .inl (.inr (.inl (by rw [← e2]; exact e)))
      · exact .inr (e2 k e)
    · exact .inl (.inr (.inr e))
/-- another row of files is -/
theorem IRep.setF (h : IRep w b S l vt vf) {W : World} {v : Value} {S' : St} (hg : w.grownBy W vf.ownBlock)
    (ho : W.ownsRow 0 100 4 v S'.next (cellsF S' S'.next)) (ha : v.ownBlock = vf.ownBlock ∨ ∀ k, v.ownBlock = some k → w.heap.size ≤ k)
    (hI : Inv S') (hT : Tags S' l) :
    IRep (W.setCell ⟨b, 1, none⟩ v) b S' l vt v ∧ Chg (iown b vt vf) w (W.setCell ⟨b, 1, none⟩ v) ∧ ∀ k, iown b vt v k → iown b vt vf k ∨ w.heap.size ≤ k := by
  have hb : W.heap[b]? = some (.cells #[vt, vf] 71 (0, 0)) := by rw [hg.block b h.blt (fun e => h.offF e.symm)]; exact h.root
  have hoth : ∀ k, k ≠ b → (W.setCell ⟨b, 1, none⟩ v).heap[k]? = W.heap[k]? := fun k hk => Below.heap_setCell _ _ _ _ hk
  have hsz : (W.setCell ⟨b, 1, none⟩ v).heap.size = W.heap.size := by simp [World.setCell]
  have hvb : v.ownBlock ≠ some b := by
    rcases ha with e | e
    · rw [e]; exact h.offF
    · intro e2
      have := e b e2
      have := h.blt
      omega
  have hvt : ∀ k, vt.ownBlock = some k → W.heap[k]? = w.heap[k]? := fun k hk => hg.block k (h.rowT.lt k hk).2 (fun e => h.apart k hk e.symm)
  refine ⟨⟨hI, hT, ?_, ?_, ownsRow_of_block ho (fun k hk => hoth k (fun e => hvb (by rw [← e]; exact hk))), h.offT, hvb, fun k hk hk2 => ?_⟩, ⟨hg.os, hg.tape, hg.output, by rw [hsz]; exact hg.size, fun k hk hn2 => ?_⟩, fun k hk => ?_⟩
  · rw [setCell_eq_setRow W b 1 _ _ _ v hb, setRow_heap W b _ _ _ _ hb]
    rfl
  · exact ownsRow_of_block h.rowT (fun k hk => by rw [hoth k (fun e => h.offT (by rw [← e]; exact hk)), hvt k hk])
  · rcases ha with e | e
    · exact h.apart k hk (by rw [← e]; exact hk2)
    · have := e k hk2
      have := (h.rowT.lt k hk).2
      omega
  · rw [hoth k (fun e => hn2 (.inl e))]
    exact hg.block k hk (fun e => hn2 (.inr (.inr e.symm)))
  · rcases hk with e | e | e
    · exact .inl (.inl e)
    · exact .inl (.inr (.inl e))
    · rcases ha with e2 | e2
      · exact .inl (.inr (.inr (by rw [← e2]; exact e)))
      · exact .inr (e2 k e)
end
end Idl
end Go.Proofs.YtmlhalhjfcfagabGreat
namespace Go.Proofs.YtmlhalhjfcfagabGreat
open Go.RowKit
namespace Idl
def IHeld (b : Nat) (vt vf : Value) (w w' : World) (S' : St) (m : Nat) : Prop :=
  ∃ l' vt' vf', IRep w' b S' l' vt' vf' ∧ Chg (iown b vt vf) w w' ∧ (∀ k, iown b vt' vf' k → iown b vt vf k ∨ w.heap.size ≤ k) ∧ l'.length ≤ m
theorem cellsF_at (S : St) (m i j : Nat) (hi : i < m) (hj : j < 4) : (cellsF S m)[i * 4 + j]? = (filC S i)[j]? := by
  have := flat_at (filC_len S) (List.range m) i (by simpa using hi) j hj
  rw [List.getElem_range] at this
  exact this
theorem cellsF_len (S : St) (m : Nat) : (cellsF S m).length = m * 4 := by
  unfold cellsF
  rw [flat_len (filC_len S), List.length_range]
theorem cellsF_put (S : St) (m n p : Nat) (hn : n < m) (hp : p < 2) (c : Bool) (t : ByteArray) :
    cellsF (S.put n p c t) m = ((cellsF S m).set (n * 4 + p) (.bool c)).set (n * 4 + 2 + p) (.string t) := by
  apply List.ext_getElem?
  intro q
  by_cases hq : q < m * 4
  · obtain ⟨i, j, hj, rfl⟩ : ∃ i j, j < 4 ∧ q = i * 4 + j := ⟨q / 4, q % 4, Nat.mod_lt _ (by omega), by omega⟩
    have hi : i < m := by omega
    rw [List.getElem?_set, List.getElem?_set, List.length_set, cellsF_len, cellsF_at _ _ _ _ hi hj, cellsF_at _ _ _ _ hi hj]
    have hp' : p = 0 ∨ p = 1 := by omega
    have hj' : j = 0 ∨ j = 1 ∨ j = 2 ∨ j = 3 := by omega
    by_cases e : i = n
    · subst e
      rcases hp' with rfl | rfl <;> rcases hj' with rfl | rfl | rfl | rfl <;> simp [filC, St.put] <;> omega
    · rcases hp' with rfl | rfl <;> rcases hj' with rfl | rfl | rfl | rfl <;> (rw [if_neg (by omega), if_neg (by omega)]; simp [filC, St.put, e])
  · rw [List.getElem?_eq_none (by rw [cellsF_len]; omega), List.getElem?_eq_none (by rw [List.length_set, List.length_set, cellsF_len]; omega)]
section
variable {w : World} {b : Nat} {S : St} {l : List Tg} {vt vf : Value}
theorem IRep.put {g cap : Nat} (h : IRep w b S l vt (.slice (some ⟨g, 0, none⟩) S.next cap)) {n p : Nat} (hn : n < S.next) (hp : p < 2) (c : Bool) (t : ByteArray) (hI : Inv (S.put n p c t)) :
    IHeld b vt (.slice (some ⟨g, 0, none⟩) S.next cap) w ((w.setCell ⟨g, n * 4 + p, none⟩ (.bool c)).setCell ⟨g, n * 4 + 2 + p, none⟩ (.string t)) (S.put n p c t) l.length := by
  have hoth : ∀ k, k ≠ g → ((w.setCell ⟨g, n * 4 + p, none⟩ (.bool c)).setCell ⟨g, n * 4 + 2 + p, none⟩ (.string t)).heap[k]? = w.heap[k]? := fun k hk => by
    rw [Below.heap_setCell _ _ _ _ hk, Below.heap_setCell _ _ _ _ hk]
  have hsz : ((w.setCell ⟨g, n * 4 + p, none⟩ (.bool c)).setCell ⟨g, n * 4 + 2 + p, none⟩ (.string t)).heap.size = w.heap.size := by simp [World.setCell]
  have hgb : b ≠ g := fun e => h.offF (by rw [e]; rfl)
  have r1 := (h.rowF.stored (n * 4 + p) (.bool c))
  have r2 := (r1.1.stored (n * 4 + 2 + p) (.string t))
  refine ⟨l, vt, _, ⟨hI, h.tags.same (fun d s => lookS_put S n p c t d s), by rw [hoth b hgb]; exact h.root, ownsRow_of_block h.rowT (fun k hk => hoth k (fun e => h.apart k hk (by rw [e]; rfl))), ?_, h.offT, h.offF, h.apart⟩, ⟨rfl, rfl, rfl, by rw [hsz]; exact Nat.le_refl _, fun k _ hk => hoth k (fun e => hk (.inr (.inr (by rw [e]; rfl))))⟩, fun k hk => .inl hk, Nat.le_refl _⟩
  rw [show (S.put n p c t).next = S.next from rfl, cellsF_put S S.next n p hn hp c t]
  exact r2.1
end
end Idl
end Go.Proofs.YtmlhalhjfcfagabGreat
namespace Go.Proofs.YtmlhalhjfcfagabGreat
open Go.RowKit
namespace Idl
section
variable {w : World} {b : Nat} {S : St} {l : List Tg} {vt vf : Value}
theorem code_chk {S : St} {x : Stp} (h : chk x ≠ 0) : code S x = chk x := by unfold code; rw [if_pos h]
theorem code_there {S : St} {x : Stp} {n : Nat} (h : chk x = 0) (hk : x.kind = 1) (hl : lookS S x.dir x.name = some n) : code S x = 4 := by
  unfold code; rw [if_neg (by omega), if_pos hk, hl]; rfl
theorem code_none {S : St} {x : Stp} (h : chk x = 0) (hk : x.kind ≠ 1) (hl : lookS S x.dir x.name = none) : code S x = 5 := by
  unfold code; rw [if_neg (by omega), if_neg hk, hl]; rfl
theorem code_to {S : St} {x : Stp} {n : Nat} (h : chk x = 0) (hk : x.kind ≠ 1) (hl : lookS S x.dir x.name = some n) (hc : code S x ≠ 0) : (x.kind = 2 ∨ x.kind = 4) ∧ ∃ m, lookS S x.toDir x.to = some m ∧ code S x = 4 := by
  unfold code at hc ⊢
  rw [if_neg (by omega), if_neg hk, hl] at hc ⊢
  rw [if_neg (by simp)] at hc ⊢
  by_cases e : (x.kind = 2 ∨ x.kind = 4) ∧ (lookS S x.toDir x.to).isSome
  · obtain ⟨m, hm⟩ := Option.isSome_iff_exists.1 e.2
    exact ⟨e.1, m, hm, by rw [if_pos e]⟩
  · rw [if_neg e] at hc; exact absurd rfl hc
theorem code_one {S : St} {x : Stp} (h : chk x = 0) (hk : x.kind = 1) (hc : code S x ≠ 0) : ∃ n, lookS S x.dir x.name = some n := by
  unfold code at hc
  rw [if_neg (by omega), if_pos hk] at hc
  cases e : lookS S x.dir x.name with
  | none => rw [e] at hc; exact absurd rfl hc
  | some n => exact ⟨n, rfl⟩
set_option maxHeartbeats 2000000 in
set_option maxRecDepth 100000 in
theorem rDo_code (h : IRep w b S l vt vf) (h1 : l.length ≤ 1000000) (h2 : S.next ≤ 1000000) (x : Stp) (hn : x.name.size ≤ maxLen) (ht : x.to.size ≤ maxLen) (hx : x.text.size ≤ maxLen) (hc : code S x ≠ 0) :
    Calls Tryz.prog 31 #[.pointer (some ⟨b, 0, none⟩), .agg (stpA x)] w fun e w' => e = .returned (.int .i64 (code S x)) ∧ Below w.heap.size w w' := by
  have bel0 : Below w.heap.size w (w.alloc (.cells (stpA x) 37)) := (Below.refl _ w).alloc (Nat.le_refl _) _
  have C1 := hide (stepFault_any x hn ht hx (w.alloc (.cells (stpA x) 37)))
  have BEL := hide bel0
  have HC := hide fun W bW => stp_kept w x W bW
  have HR := hide h
  have T := hide h.tags
  clear h bel0
  by_cases hk : chk x = 0
  · rw [hk] at C1
    by_cases h11 : x.kind = 1
    · obtain ⟨n, hl⟩ := code_one hk h11 hc
      have hcode := code_there hk h11 hl
      rw [hcode]
      rcases atI_lookS (unhide T) x.dir x.name with ⟨_, a2⟩ | ⟨i, _, _, a1, _⟩
      · rw [hl] at a2; cases a2
      · have HA := hide a1
        obtain ⟨kind, dir, toDir, p, name, tu, text⟩ := x
        have hkk : kind = 1 := h11
        subst hkk
        clear hcode hc h11 hk hl a1
        go_enter Tryz.func31, Tryz.ntmps31
        go_wp2_with fail
        refine (unhide C1).mono ?_
        rintro e w1 ⟨rfl, bel⟩
        have c0 : w1.cell? ⟨w.heap.size, 0, none⟩ = some (.int .i64 1) := unhide HC w1 bel 0 _ rfl
        have c1 : w1.cell? ⟨w.heap.size, 1, none⟩ = some (.int .i64 dir) := unhide HC w1 bel 1 _ rfl
        have c4 : w1.cell? ⟨w.heap.size, 4, none⟩ = some (.string name) := unhide HC w1 bel 4 _ rfl
        have B1 : Below w.heap.size w w1 := (unhide BEL).trans (bel.mono (by simp))
        obtain ⟨ta, fa, tc, fc, _, _, R1⟩ := ((unhide HR).below B1).rd h1 h2
        have C2 := hide (rAt_any dir name w1 R1)
        rw [unhide HA] at C2
        have u1 : decide ((i : Int) ≥ 0) = true := by simp
        have u2 : decide (0 ≤ (i : Int)) = true := by simp
        clear R1 bel HA
        go_wp2_with fail
        refine (unhide C2).mono ?_
        rintro e w2 ⟨rfl, q, rfl⟩
        go_wp2_with fail
        go_ret
        exact ⟨rfl, belowN B1⟩
    · cases hl : lookS S x.dir x.name with
      | none =>
        have hcode := code_none hk h11 hl
        rw [hcode]
        rcases atI_lookS (unhide T) x.dir x.name with ⟨a1, _⟩ | ⟨i, _, _, _, a2⟩
        · have HA := hide a1
          obtain ⟨kind, dir, toDir, p, name, tu, text⟩ := x
          have hkk : (kind == 1) = false := by simpa using h11
          clear hcode hc h11 hk hl a1
          go_enter Tryz.func31, Tryz.ntmps31
          go_wp2_with fail
          refine (unhide C1).mono ?_
          rintro e w1 ⟨rfl, bel⟩
          have c0 : w1.cell? ⟨w.heap.size, 0, none⟩ = some (.int .i64 kind) := unhide HC w1 bel 0 _ rfl
          have c1 : w1.cell? ⟨w.heap.size, 1, none⟩ = some (.int .i64 dir) := unhide HC w1 bel 1 _ rfl
          have c4 : w1.cell? ⟨w.heap.size, 4, none⟩ = some (.string name) := unhide HC w1 bel 4 _ rfl
          have B1 : Below w.heap.size w w1 := (unhide BEL).trans (bel.mono (by simp))
          obtain ⟨ta, fa, tc, fc, _, _, R1⟩ := ((unhide HR).below B1).rd h1 h2
          have C2 := hide (rAt_any dir name w1 R1)
          rw [unhide HA] at C2
          clear R1 bel HA
          go_wp2_with fail
          refine (unhide C2).mono ?_
          rintro e w2 ⟨rfl, q, rfl⟩
          go_wp2_with fail
          go_ret
          exact ⟨rfl, belowN B1⟩
        · rw [hl] at a2; cases a2
      | some n =>
        obtain ⟨h24, m, hm, hcode⟩ := code_to hk h11 hl hc
        rw [hcode]
        rcases atI_lookS (unhide T) x.dir x.name with ⟨_, a2⟩ | ⟨i, hi, _, a1, _⟩
        · rw [hl] at a2; cases a2
        · rcases atI_lookS (unhide T) x.toDir x.to with ⟨_, b2⟩ | ⟨j, _, _, b1, _⟩
          · rw [hm] at b2; cases b2
          · have HA := hide a1
            have HB := hide b1
            obtain ⟨kind, dir, toDir, p, name, tu, text⟩ := x
            have hkk : (kind == 1) = false := by simpa using h11
            have hk24 : kind = 2 ∨ kind = 4 := h24
            clear hcode hc h11 hk hl a1 b1 hm h24 hkk
            rcases hk24 with rfl | rfl
            all_goals
              go_enter Tryz.func31, Tryz.ntmps31
              go_wp2_with fail
              refine (unhide C1).mono ?_
              rintro e w1 ⟨rfl, bel⟩
              have c0 := unhide HC w1 bel 0 _ rfl
              have c1 : w1.cell? ⟨w.heap.size, 1, none⟩ = some (.int .i64 dir) := unhide HC w1 bel 1 _ rfl
              have c2 : w1.cell? ⟨w.heap.size, 2, none⟩ = some (.int .i64 toDir) := unhide HC w1 bel 2 _ rfl
              have c4 : w1.cell? ⟨w.heap.size, 4, none⟩ = some (.string name) := unhide HC w1 bel 4 _ rfl
              have c5 : w1.cell? ⟨w.heap.size, 5, none⟩ = some (.string tu) := unhide HC w1 bel 5 _ rfl
              have B1 : Below w.heap.size w w1 := (unhide BEL).trans (bel.mono (by simp))
              obtain ⟨ta, fa, tc, fc, _, _, R1⟩ := ((unhide HR).below B1).rd h1 h2
              have C2 := hide (rAt_any dir name w1 R1)
              have C3 := hide (fun q => rAt_any toDir tu (w1.drewN q) (R1.draw q))
              rw [unhide HA] at C2
              rw [unhide HB] at C3
              have u1 : decide ((i : Int) < 0) = false := by simp
              have u3 : decide ((j : Int) ≥ 0) = true := by simp
              have u4 : decide (0 ≤ (j : Int)) = true := by simp
              have tv := R1.tv
              have blt := R1.lt
              obtain ⟨g, o, rfl, hg, _, _, t2⟩ := R1.tags i hi
              have iz : (i : Int) < (l.length : Int) := by omega
              generalize l.length = ln at tv iz h1
              generalize ((l[i].file : Nat) : Int) = fl at t2
              clear R1 bel HA HB
              go_wp2_with fail
              refine (unhide C2).mono ?_
              rintro e w2 ⟨rfl, q, rfl⟩
              go_wp2_with fail
              try (go_quiet (fail); go_wp2_with fail)
              refine (unhide C3 _).mono ?_
              rintro e w2 ⟨rfl, q2, rfl⟩
              go_wp2_with fail
              go_ret
              exact ⟨rfl, by first | exact belowN (belowN B1) | (rw [drewNN]; exact belowN B1) | exact belowN B1⟩
  · rw [code_chk hk]
    generalize chk x = ck at C1 hk
    have u1 : (ck != 0) = true := by simpa using hk
    clear hc HC
    obtain ⟨kind, dir, toDir, p, name, tu, text⟩ := x
    go_enter Tryz.func31, Tryz.ntmps31
    go_wp2_with fail
    refine (unhide C1).mono ?_
    rintro e w1 ⟨rfl, bel⟩
    go_wp2_with fail
    go_ret
    exact ⟨rfl, (unhide BEL).trans (bel.mono (by simp))⟩
end
end Idl
end Go.Proofs.YtmlhalhjfcfagabGreat
namespace Go.Proofs.YtmlhalhjfcfagabGreat
open Go.RowKit
namespace Idl
theorem run_ld_sl {o : Oper} {ρ : Operand → Value} (x : Operand) (ho : o.op = .load 69 x) {g o0 : Nat} (hx : ρ x = .pointer (some ⟨g, o0, none⟩)) {a : Option Addr} {n c : Nat} (w : World) (h : w.cell? ⟨g, o0, none⟩ = some (.slice a n c)) : (execOp ρ o).run Tryz.prog w = .ok (.value (.slice a n c)) w := by
  unfold execOp
  rw [ho]
  go_simp
theorem run_ld_int {o : Oper} {ρ : Operand → Value} (x : Operand) (ho : o.op = .load 3 x) {g o0 : Nat} (hx : ρ x = .pointer (some ⟨g, o0, none⟩)) {v : Int} (w : World) (h : w.cell? ⟨g, o0, none⟩ = some (.int .i64 v)) : (execOp ρ o).run Tryz.prog w = .ok (.value (.int .i64 v)) w := by
  unfold execOp
  rw [ho]
  go_simp
theorem run_ld_str {o : Oper} {ρ : Operand → Value} (x : Operand) (ho : o.op = .load 9 x) {g o0 : Nat} (hx : ρ x = .pointer (some ⟨g, o0, none⟩)) {v : ByteArray} (w : World) (h : w.cell? ⟨g, o0, none⟩ = some (.string v)) : (execOp ρ o).run Tryz.prog w = .ok (.value (.string v)) w := by
  unfold execOp
  rw [ho]
  go_simp
theorem run_idx_file {o : Oper} {ρ : Operand → Value} (x y : Operand) (ho : o.op = .indexAddr 69 x y) {g n c j : Nat} (hx : ρ x = .slice (some ⟨g, 0, none⟩) n c) (hy : ρ y = .int .i64 ((j : Nat) : Int)) (hj : j < n) (w : World) : (execOp ρ o).run Tryz.prog w = .ok (.value (.pointer (some ⟨g, j * 4, none⟩))) w := by
  have jz : (j : Int) < (n : Int) := by omega
  unfold execOp
  rw [ho]
  go_simp
theorem wp_st_bool {o : Oper} {a : Act} {K : Act → World → Prop} {Q : Exit → Act → World → Prop} {W : World} (x y : Operand) (ho : o.op = .store 4 x y) (hd : o.dst = none) {g o0 : Nat} {v : Bool} (hx : a.eval x = .pointer (some ⟨g, o0, none⟩)) (hy : a.eval y = .bool v) {u : Value} (hc : W.cell? ⟨g, o0, none⟩ = some u) (hf : W.frozen? ⟨g, o0, none⟩ = false)
    (h : K a (W.setCell ⟨g, o0, none⟩ (.bool v))) : o.wp Tryz.prog a W K Q := by
  unfold Oper.wp execOp
  simp only [ho, hx, hy]
  go_simp
  exact h
theorem wp_st_str {o : Oper} {a : Act} {K : Act → World → Prop} {Q : Exit → Act → World → Prop} {W : World} (x y : Operand) (ho : o.op = .store 9 x y) (hd : o.dst = none) {g o0 : Nat} {v : ByteArray} (hx : a.eval x = .pointer (some ⟨g, o0, none⟩)) (hy : a.eval y = .string v) {u : Value} (hc : W.cell? ⟨g, o0, none⟩ = some u) (hf : W.frozen? ⟨g, o0, none⟩ = false)
    (h : K a (W.setCell ⟨g, o0, none⟩ (.string v))) : o.wp Tryz.prog a W K Q := by
  unfold Oper.wp execOp
  simp only [ho, hx, hy]
  go_simp
  exact h
/-- what the region reads -/
def PS (b xb nf gf fc : Nat) (p : Int) (text : ByteArray) (W : World) : Prop := W.cell? ⟨b, 1, none⟩ = some (.slice (some ⟨gf, 0, none⟩) nf fc) ∧ W.cell? ⟨xb, 3, none⟩ = some (.int .i64 p) ∧ W.cell? ⟨xb, 6, none⟩ = some (.string text)
theorem PS.far {b xb nf gf fc : Nat} {p : Int} {text : ByteArray} {W : World} (h : PS b xb nf gf fc p text W) (hb : b ≠ gf) (hx : xb ≠ gf) {o0 : Nat} {v : Value} : PS b xb nf gf fc p text (W.setCell ⟨gf, o0, none⟩ v) :=
  ⟨by rw [World.cell?_setCell_far _ _ _ _ (Ne.symm hb)]; exact h.1, by rw [World.cell?_setCell_far _ _ _ _ (Ne.symm hx)]; exact h.2.1, by rw [World.cell?_setCell_far _ _ _ _ (Ne.symm hx)]; exact h.2.2⟩
section
variable {w : World} {b : Nat} {S : St} {l : List Tg} {vt vf : Value}
theorem IHeld.of {W w' : World} {S' : St} {m : Nat} (hb : Below w.heap.size w W) (H : IHeld b vt vf W w' S' m) : IHeld b vt vf w w' S' m := by
  obtain ⟨l', vt', vf', r, c, e, hl⟩ := H
  have hs := hb.size
  refine ⟨l', vt', vf', r, (Chg.of_below hb).trans c (fun i hi => .inl hi), fun k hk => ?_, hl⟩
  rcases e k hk with h1 | h1
  · exact .inl h1
  · exact .inr (by omega)
set_option maxHeartbeats 4000000 in
set_option maxRecDepth 100000 in
theorem rDo_put (h : IRep w b S l vt vf) (h1 : l.length ≤ 1000000) (h2 : S.next ≤ 1000000) (dir toDir p : Int) (name tu text : ByteArray) (hn : name.size ≤ maxLen) (ht : tu.size ≤ maxLen) (hx : text.size ≤ maxLen) (hc : code S ⟨5, dir, toDir, p, name, tu, text⟩ = 0) :
    Calls Tryz.prog 31 #[.pointer (some ⟨b, 0, none⟩), .agg (stpA ⟨5, dir, toDir, p, name, tu, text⟩)] w fun e w' => e = .returned (.int .i64 0) ∧ IHeld b vt vf w w' (step S ⟨5, dir, toDir, p, name, tu, text⟩) l.length := by
  have bel0 : Below w.heap.size w (w.alloc (.cells (stpA ⟨5, dir, toDir, p, name, tu, text⟩) 37)) := (Below.refl _ w).alloc (Nat.le_refl _) _
  have C1 := hide (stepFault_any ⟨5, dir, toDir, p, name, tu, text⟩ hn ht hx (w.alloc (.cells (stpA ⟨5, dir, toDir, p, name, tu, text⟩) 37)))
  have BEL := hide bel0
  have HC := hide fun W bW => stp_kept w ⟨5, dir, toDir, p, name, tu, text⟩ W bW
  have HR := hide h
  have hk : chk ⟨5, dir, toDir, p, name, tu, text⟩ = 0 := by
    cases e : decide (chk ⟨5, dir, toDir, p, name, tu, text⟩ = 0)
    · rw [code_chk (by simpa using e)] at hc; exact hc
    · simpa using e
  rw [hk] at C1
  have g0 := goes hc
  have hpp := g0.part (by simp)
  have hp0 : 0 ≤ p := hpp.1
  have hp2 : p < 2 := hpp.2
  have hlook := g0.old (by simp)
  have hlk : lookS S dir name = some (the S ⟨5, dir, toDir, p, name, tu, text⟩) := by rw [lookS_in g0.din]; exact hlook
  have hnlt : the S ⟨5, dir, toDir, p, name, tu, text⟩ < S.next := old_lt h.inv hlook
  have hst : step S ⟨5, dir, toDir, p, name, tu, text⟩ = S.put (the S ⟨5, dir, toDir, p, name, tu, text⟩) p.toNat true text := by
    rcases step_cases hc with ⟨k, _⟩ | ⟨k, _⟩ | ⟨k, _⟩ | ⟨k, _⟩ | ⟨k, e⟩ | ⟨k, e⟩
    all_goals first | exact e | (exfalso; revert k; decide) | (simp at k)
  have HI := hide (inv_step h.inv ⟨5, dir, toDir, p, name, tu, text⟩)
  rw [hst] at HI ⊢
  rcases atI_lookS h.tags dir name with ⟨_, a2⟩ | ⟨i, hi, _, a1, a2⟩
  · rw [hlk] at a2; cases a2
  · obtain ⟨n, hnn⟩ : ∃ n, n = the S ⟨5, dir, toDir, p, name, tu, text⟩ := ⟨_, rfl⟩
    rw [← hnn] at hnlt HI hlk ⊢
    have hfile : l[i].file = n := by rw [hlk] at a2; cases a2; rfl
    have HA := hide a1
    obtain ⟨pp, rfl⟩ := Int.eq_ofNat_of_zero_le hp0
    have hpn : pp < 2 := by omega
    rw [Int.toNat_natCast] at HI ⊢
    have hp01 : pp = 0 ∨ pp = 1 := by omega
    clear hc hk g0 hpp hp0 hp2 hlook hst a1 a2 hnn hlk bel0 hpn
    rcases hp01 with rfl | rfl
    · skip
      go_enter Tryz.func31, Tryz.ntmps31
      go_wp2_with fail
      refine (unhide C1).mono ?_
      rintro e w1 ⟨rfl, bel⟩
      have B1 : Below w.heap.size w w1 := (unhide BEL).trans (bel.mono (by simp))
      have c1 : w1.cell? ⟨w.heap.size, 1, none⟩ = some (.int .i64 dir) := unhide HC w1 bel 1 _ rfl
      have c4 : w1.cell? ⟨w.heap.size, 4, none⟩ = some (.string name) := unhide HC w1 bel 4 _ rfl
      obtain ⟨ta, fa, tc, fc, e1, e2, R1⟩ := ((unhide HR).below B1).rd h1 h2
      have C2 := hide (rAt_any dir name w1 R1)
      rw [unhide HA] at C2
      have BL := hide bel
      clear R1 bel HA e1 e2
      go_wp2_with fail
      refine (unhide C2).mono ?_
      rintro e w2 ⟨rfl, q, rfl⟩
      have B2 : Below w.heap.size w (w1.drewN q) := belowN B1
      have b2 : Below (w.alloc (.cells (stpA ⟨5, dir, toDir, ((0 : Nat) : Int), name, tu, text⟩) 37)).heap.size (w.alloc (.cells (stpA ⟨5, dir, toDir, ((0 : Nat) : Int), name, tu, text⟩) 37)) (w1.drewN q) := belowN (unhide BL)
      clear B1 BL c1 c4 C2
      generalize w1.drewN q = W at B2 b2 ⊢
      have HW := hide ((unhide HR).below B2)
      have c0 : W.cell? ⟨w.heap.size, 0, none⟩ = some (.int .i64 5) := unhide HC W b2 0 _ rfl
      have c3 : W.cell? ⟨w.heap.size, 3, none⟩ = some (.int .i64 0) := unhide HC W b2 3 _ rfl
      have c6 : W.cell? ⟨w.heap.size, 6, none⟩ = some (.string text) := unhide HC W b2 6 _ rfl
      obtain ⟨g2, cp2, ev, hgl, hgc⟩ := row_cell (unhide HW).rowF (by omega)
      subst ev
      obtain ⟨ta, fa, tc, fc, et, ef, R2⟩ := (unhide HW).rd h1 h2
      simp only [Value.slice.injEq] at ef
      obtain ⟨rfl, _, ecp⟩ := ef
      subst ecp
      have tv := R2.tv
      have fv := R2.fv
      have blt := R2.lt
      obtain ⟨gt, ot, rfl, hgt, _, _, t2⟩ := R2.tags i hi
      rw [hfile] at t2
      obtain ⟨gf, og, ef, hgf, f1', f2'⟩ := R2.files n hnlt
      simp only [Option.some.injEq, Addr.mk.injEq, and_true] at ef
      obtain ⟨rfl, rfl⟩ := ef
      rw [Nat.zero_add] at f1' f2'
      have f1 := f1' 0 (by omega)
      have f2 := f2' 0 (by omega)
      have z1 : W.frozen? ⟨g2, n * 4 + 0, none⟩ = false := (unhide HW).rowF.frozenAt _
      have z2 : (W.setCell ⟨g2, n * 4 + 0, none⟩ (.bool true)).frozen? ⟨g2, n * 4 + 2 + 0, none⟩ = false := ((unhide HW).rowF.stored _ _).1.frozenAt _
      have f2 : (W.setCell ⟨g2, n * 4 + 0, none⟩ (.bool true)).cell? ⟨g2, n * 4 + 2 + 0, none⟩ = some (.string (S.txt n 0)) := by
        rw [World.cell?_setCell_other _ _ _ _ (by simp only [ne_eq, Addr.mk.injEq, not_and]; omega)]; exact f2
      have hbg : b ≠ g2 := fun e => (unhide HW).offF (by rw [e]; rfl)
      have hxg : w.heap.size ≠ g2 := fun e => by
        have := (unhide HR).lt (k := g2) (.inr (.inr rfl))
        omega
      have FIN := hide (((unhide HW).below (Below.refl _ _).drew).put hnlt (show 0 < 2 by omega) true text (unhide HI))
      have iz : (i : Int) < (l.length : Int) := by omega
      have u1 : decide ((i : Int) < 0) = false := by simp
      have BB := hide B2
      have hPS : PS b w.heap.size S.next g2 cp2 (0 : Int) text W.drew := ⟨fv, c3, c6⟩
      obtain ⟨ln, hln⟩ : ∃ ln, ln = l.length := ⟨_, rfl⟩
      obtain ⟨xb, hxb⟩ : ∃ xb, xb = w.heap.size := ⟨_, rfl⟩
      have HX := hide hxb
      clear f1' f2' R2 et hgc B2 b2 HI
      go_wp2_with fail
      try (go_quiet (fail); go_wp2_with fail)
      refine wp_region_held_drew (S := PS b w.heap.size S.next g2 cp2 (0 : Int) text) (by kernel_rfl) hPS (fun hS => ?_)
      refine wpAnyH_take (i := 0) (oi := { dst := some 125, op := Op.move (Operand.tmp 0), type := 67, pos := "base.go:406", after := #[], guard := none }) (v := .pointer (some ⟨b, 0, none⟩)) rfl (by kernel_rfl) (by kernel_rfl) (by kernel_rfl) (fun _ _ _ h => h) (Or.inl ⟨by kernel_rfl, fun W h => (by first | kernel_rfl | go_simp)⟩) hS ?_
      simp only [Act.put, List.setIfInBounds_toArray, List.set_cons_zero, List.set_cons_succ]
      refine wpAnyH_take (i := 1) (oi := { dst := some 126, op := Op.nilCheck (Operand.tmp 125), type := 0, pos := "base.go:406", after := #[{ on := 0, ground := Ground.data }], guard := none }) (v := .pointer (some ⟨b, 0, none⟩)) rfl (by kernel_rfl) (by kernel_rfl) (by kernel_rfl) (fun _ _ _ h => h) (Or.inl ⟨by kernel_rfl, fun W h => (by first | kernel_rfl | go_simp)⟩) hS ?_
      simp only [Act.put, List.setIfInBounds_toArray, List.set_cons_zero, List.set_cons_succ]
      refine wpAnyH_take (i := 2) (oi := { dst := some 127, op := Op.fieldAddr 71 (Operand.tmp 126) 1, type := 0, pos := "base.go:406", after := #[{ on := 1, ground := Ground.data }], guard := none }) (v := .pointer (some ⟨b, 1, none⟩)) rfl (by kernel_rfl) (by kernel_rfl) (by kernel_rfl) (fun _ _ _ h => h) (Or.inl ⟨by kernel_rfl, fun W h => (by first | kernel_rfl | go_simp)⟩) hS ?_
      simp only [Act.put, List.setIfInBounds_toArray, List.set_cons_zero, List.set_cons_succ]
      refine wpAnyH_take (i := 3) (oi := { dst := some 128, op := Op.load 69 (Operand.tmp 127), type := 69, pos := "base.go:406", after := #[{ on := 2, ground := Ground.data }], guard := none }) (v := .slice (some ⟨g2, 0, none⟩) S.next cp2) rfl (by kernel_rfl) (by kernel_rfl) (by kernel_rfl) (fun _ _ _ h => h) (Or.inl ⟨by kernel_rfl, fun W h => run_ld_sl (.tmp 127) (by kernel_rfl) (by kernel_rfl) W h.1⟩) hS ?_
      simp only [Act.put, List.setIfInBounds_toArray, List.set_cons_zero, List.set_cons_succ]
      refine wpAnyH_take (i := 4) (oi := { dst := some 129, op := Op.move (Operand.tmp 7), type := 3, pos := "base.go:406", after := #[], guard := none }) (v := .int .i64 (n : Nat)) rfl (by kernel_rfl) (by kernel_rfl) (by kernel_rfl) (fun _ _ _ h => h) (Or.inl ⟨by kernel_rfl, fun W h => (by first | kernel_rfl | go_simp)⟩) hS ?_
      simp only [Act.put, List.setIfInBounds_toArray, List.set_cons_zero, List.set_cons_succ]
      refine wpAnyH_take (i := 5) (oi := { dst := some 130, op := Op.fieldAddr 37 (Operand.tmp 3) 3, type := 0, pos := "base.go:406", after := #[], guard := none }) (v := .pointer (some ⟨w.heap.size, 3, none⟩)) rfl (by kernel_rfl) (by kernel_rfl) (by kernel_rfl) (fun _ _ _ h => h) (Or.inl ⟨by kernel_rfl, fun W h => (by first | kernel_rfl | go_simp)⟩) hS ?_
      simp only [Act.put, List.setIfInBounds_toArray, List.set_cons_zero, List.set_cons_succ]
      refine wpAnyH_take (i := 6) (oi := { dst := some 131, op := Op.load 3 (Operand.tmp 130), type := 3, pos := "base.go:406", after := #[{ on := 5, ground := Ground.data }], guard := none }) (v := .int .i64 0) rfl (by kernel_rfl) (by kernel_rfl) (by kernel_rfl) (fun _ _ _ h => h) (Or.inl ⟨by kernel_rfl, fun W h => run_ld_int (.tmp 130) (by kernel_rfl) (by kernel_rfl) W h.2.1⟩) hS ?_
      simp only [Act.put, List.setIfInBounds_toArray, List.set_cons_zero, List.set_cons_succ]
      refine wpAnyH_take (i := 7) (oi := { dst := some 132, op := Op.move (Operand.tmp 0), type := 67, pos := "base.go:406", after := #[], guard := none }) (v := .pointer (some ⟨b, 0, none⟩)) rfl (by kernel_rfl) (by kernel_rfl) (by kernel_rfl) (fun _ _ _ h => h) (Or.inl ⟨by kernel_rfl, fun W h => (by first | kernel_rfl | go_simp)⟩) hS ?_
      simp only [Act.put, List.setIfInBounds_toArray, List.set_cons_zero, List.set_cons_succ]
      refine wpAnyH_take (i := 8) (oi := { dst := some 133, op := Op.nilCheck (Operand.tmp 132), type := 0, pos := "base.go:406", after := #[{ on := 7, ground := Ground.data }], guard := none }) (v := .pointer (some ⟨b, 0, none⟩)) rfl (by kernel_rfl) (by kernel_rfl) (by kernel_rfl) (fun _ _ _ h => h) (Or.inl ⟨by kernel_rfl, fun W h => (by first | kernel_rfl | go_simp)⟩) hS ?_
      simp only [Act.put, List.setIfInBounds_toArray, List.set_cons_zero, List.set_cons_succ]
      refine wpAnyH_take (i := 9) (oi := { dst := some 134, op := Op.fieldAddr 71 (Operand.tmp 133) 1, type := 0, pos := "base.go:406", after := #[{ on := 8, ground := Ground.data }], guard := none }) (v := .pointer (some ⟨b, 1, none⟩)) rfl (by kernel_rfl) (by kernel_rfl) (by kernel_rfl) (fun _ _ _ h => h) (Or.inl ⟨by kernel_rfl, fun W h => (by first | kernel_rfl | go_simp)⟩) hS ?_
      simp only [Act.put, List.setIfInBounds_toArray, List.set_cons_zero, List.set_cons_succ]
      refine wpAnyH_take (i := 10) (oi := { dst := some 135, op := Op.load 69 (Operand.tmp 134), type := 69, pos := "base.go:406", after := #[{ on := 9, ground := Ground.data }], guard := none }) (v := .slice (some ⟨g2, 0, none⟩) S.next cp2) rfl (by kernel_rfl) (by kernel_rfl) (by kernel_rfl) (fun _ _ _ h => h) (Or.inl ⟨by kernel_rfl, fun W h => run_ld_sl (.tmp 134) (by kernel_rfl) (by kernel_rfl) W h.1⟩) hS ?_
      simp only [Act.put, List.setIfInBounds_toArray, List.set_cons_zero, List.set_cons_succ]
      refine wpAnyH_take (i := 11) (oi := { dst := some 136, op := Op.move (Operand.tmp 7), type := 3, pos := "base.go:406", after := #[{ on := 19, ground := Ground.gcOnly Departure.lateStores }], guard := none }) (v := .int .i64 (n : Nat)) rfl (by kernel_rfl) (by kernel_rfl) (by kernel_rfl) (fun _ _ _ h => h) (Or.inl ⟨by kernel_rfl, fun W h => (by first | kernel_rfl | go_simp)⟩) hS ?_
      simp only [Act.put, List.setIfInBounds_toArray, List.set_cons_zero, List.set_cons_succ]
      refine wpAnyH_take (i := 12) (oi := { dst := some 137, op := Op.fieldAddr 37 (Operand.tmp 3) 3, type := 0, pos := "base.go:406", after := #[{ on := 19, ground := Ground.gcOnly Departure.lateStores }], guard := none }) (v := .pointer (some ⟨w.heap.size, 3, none⟩)) rfl (by kernel_rfl) (by kernel_rfl) (by kernel_rfl) (fun _ _ _ h => h) (Or.inl ⟨by kernel_rfl, fun W h => (by first | kernel_rfl | go_simp)⟩) hS ?_
      simp only [Act.put, List.setIfInBounds_toArray, List.set_cons_zero, List.set_cons_succ]
      refine wpAnyH_take (i := 13) (oi := { dst := some 138, op := Op.load 3 (Operand.tmp 137), type := 3, pos := "base.go:406", after := #[{ on := 12, ground := Ground.data }, { on := 19, ground := Ground.gcOnly Departure.lateStores }], guard := none }) (v := .int .i64 0) rfl (by kernel_rfl) (by kernel_rfl) (by kernel_rfl) (fun _ _ _ h => h) (Or.inl ⟨by kernel_rfl, fun W h => run_ld_int (.tmp 137) (by kernel_rfl) (by kernel_rfl) W h.2.1⟩) hS ?_
      simp only [Act.put, List.setIfInBounds_toArray, List.set_cons_zero, List.set_cons_succ]
      refine wpAnyH_take (i := 14) (oi := { dst := some 139, op := Op.fieldAddr 37 (Operand.tmp 3) 6, type := 0, pos := "base.go:406", after := #[{ on := 19, ground := Ground.gcOnly Departure.lateStores }], guard := none }) (v := .pointer (some ⟨w.heap.size, 6, none⟩)) rfl (by kernel_rfl) (by kernel_rfl) (by kernel_rfl) (fun _ _ _ h => h) (Or.inl ⟨by kernel_rfl, fun W h => (by first | kernel_rfl | go_simp)⟩) hS ?_
      simp only [Act.put, List.setIfInBounds_toArray, List.set_cons_zero, List.set_cons_succ]
      refine wpAnyH_take (i := 15) (oi := { dst := some 140, op := Op.load 9 (Operand.tmp 139), type := 9, pos := "base.go:406", after := #[{ on := 14, ground := Ground.data }, { on := 19, ground := Ground.gcOnly Departure.lateStores }], guard := none }) (v := .string text) rfl (by kernel_rfl) (by kernel_rfl) (by kernel_rfl) (fun _ _ _ h => h) (Or.inl ⟨by kernel_rfl, fun W h => run_ld_str (.tmp 139) (by kernel_rfl) (by kernel_rfl) W h.2.2⟩) hS ?_
      simp only [Act.put, List.setIfInBounds_toArray, List.set_cons_zero, List.set_cons_succ]
      refine wpAnyH_take (i := 16) (oi := { dst := some 141, op := Op.indexAddr 69 (Operand.tmp 128) (Operand.tmp 129), type := 0, pos := "base.go:406", after := #[{ on := 3, ground := Ground.data }, { on := 4, ground := Ground.data }], guard := none }) (v := .pointer (some ⟨g2, n * 4, none⟩)) rfl (by kernel_rfl) (by kernel_rfl) (by kernel_rfl) (fun _ _ _ h => h) (Or.inl ⟨by kernel_rfl, fun W h => run_idx_file (c := cp2) (.tmp 128) (.tmp 129) (by kernel_rfl) (by kernel_rfl) (by kernel_rfl) hnlt W⟩) hS ?_
      simp only [Act.put, List.setIfInBounds_toArray, List.set_cons_zero, List.set_cons_succ]
      refine wpAnyH_take (i := 17) (oi := { dst := some 142, op := Op.fieldAddr 100 (Operand.tmp 141) 0, type := 0, pos := "base.go:406", after := #[{ on := 16, ground := Ground.data }], guard := none }) (v := .pointer (some ⟨g2, n * 4, none⟩)) rfl (by kernel_rfl) (by kernel_rfl) (by kernel_rfl) (fun _ _ _ h => h) (Or.inl ⟨by kernel_rfl, fun W h => (by first | kernel_rfl | go_simp)⟩) hS ?_
      simp only [Act.put, List.setIfInBounds_toArray, List.set_cons_zero, List.set_cons_succ]
      refine wpAnyH_take (i := 18) (oi := { dst := some 143, op := Op.indexAddr 97 (Operand.tmp 142) (Operand.tmp 131), type := 0, pos := "base.go:406", after := #[{ on := 17, ground := Ground.data }, { on := 6, ground := Ground.data }, { on := 0, ground := Ground.phase }, { on := 1, ground := Ground.phase }, { on := 2, ground := Ground.phase }, { on := 3, ground := Ground.phase }, { on := 4, ground := Ground.phase }, { on := 5, ground := Ground.phase }, { on := 6, ground := Ground.phase }, { on := 7, ground := Ground.textOnly Departure.lateStores }, { on := 8, ground := Ground.textOnly Departure.lateStoresUnsure }, { on := 9, ground := Ground.textOnly Departure.lateStoresUnsure }, { on := 10, ground := Ground.phase }, { on := 11, ground := Ground.textOnly Departure.lateStores }, { on := 12, ground := Ground.textOnly Departure.lateStores }, { on := 13, ground := Ground.textOnly Departure.lateStores }, { on := 14, ground := Ground.textOnly Departure.lateStores }, { on := 15, ground := Ground.textOnly Departure.lateStores }], guard := none }) (v := .pointer (some ⟨g2, n * 4 + 0, none⟩)) rfl (by kernel_rfl) (by kernel_rfl) (by kernel_rfl) (fun _ _ _ h => h) (Or.inl ⟨by kernel_rfl, fun W h => (by first | kernel_rfl | go_simp)⟩) hS ?_
      simp only [Act.put, List.setIfInBounds_toArray, List.set_cons_zero, List.set_cons_succ]
      refine wpAnyH_take (i := 20) (oi := { dst := some 144, op := Op.indexAddr 69 (Operand.tmp 135) (Operand.tmp 136), type := 0, pos := "base.go:406", after := #[{ on := 10, ground := Ground.data }, { on := 11, ground := Ground.data }], guard := none }) (v := .pointer (some ⟨g2, n * 4, none⟩)) rfl (by kernel_rfl) (by kernel_rfl) (by kernel_rfl) (fun _ _ _ h => h) (Or.inl ⟨by kernel_rfl, fun W h => run_idx_file (c := cp2) (.tmp 135) (.tmp 136) (by kernel_rfl) (by kernel_rfl) (by kernel_rfl) hnlt W⟩) hS ?_
      simp only [Act.put, List.setIfInBounds_toArray, List.set_cons_zero, List.set_cons_succ]
      refine wpAnyH_take (i := 21) (oi := { dst := some 145, op := Op.fieldAddr 100 (Operand.tmp 144) 1, type := 0, pos := "base.go:406", after := #[{ on := 20, ground := Ground.data }], guard := none }) (v := .pointer (some ⟨g2, n * 4 + 2, none⟩)) rfl (by kernel_rfl) (by kernel_rfl) (by kernel_rfl) (fun _ _ _ h => h) (Or.inl ⟨by kernel_rfl, fun W h => (by first | kernel_rfl | go_simp)⟩) hS ?_
      simp only [Act.put, List.setIfInBounds_toArray, List.set_cons_zero, List.set_cons_succ]
      refine wpAnyH_ready (rs := [19]) (by kernel_rfl) (by simp) ?_
      refine AllReadyH.cons (o := { dst := none, op := Op.store 4 (Operand.tmp 143) (Operand.const (Value.bool true)), type := 0, pos := "base.go:406", after := #[{ on := 18, ground := Ground.data }, { on := 0, ground := Ground.phase }, { on := 1, ground := Ground.phase }, { on := 2, ground := Ground.phase }, { on := 3, ground := Ground.phase }, { on := 4, ground := Ground.phase }, { on := 5, ground := Ground.phase }, { on := 6, ground := Ground.phase }, { on := 7, ground := Ground.textOnly Departure.lateStores }, { on := 8, ground := Ground.textOnly Departure.lateStoresUnsure }, { on := 9, ground := Ground.textOnly Departure.lateStoresUnsure }, { on := 10, ground := Ground.phase }, { on := 11, ground := Ground.textOnly Departure.lateStores }, { on := 12, ground := Ground.textOnly Departure.lateStores }, { on := 13, ground := Ground.textOnly Departure.lateStores }, { on := 14, ground := Ground.textOnly Departure.lateStores }, { on := 15, ground := Ground.textOnly Departure.lateStores }], guard := none }) rfl (fun K hK => ?_) AllReadyH.nil
      rw [if_pos (by kernel_rfl)]
      refine wp_st_bool (v := true) (.tmp 143) (.const (.bool true)) (by kernel_rfl) rfl (by kernel_rfl) (by kernel_rfl) f1 z1 ?_
      refine hK.out _ _ (hS.far hbg hxg) (fun hS2 => ?_)
      clear hK K
      refine wpAnyH_take (i := 22) (oi := { dst := some 146, op := Op.indexAddr 98 (Operand.tmp 145) (Operand.tmp 138), type := 0, pos := "base.go:406", after := #[{ on := 21, ground := Ground.data }, { on := 13, ground := Ground.data }, { on := 0, ground := Ground.phase }, { on := 1, ground := Ground.phase }, { on := 2, ground := Ground.phase }, { on := 3, ground := Ground.phase }, { on := 4, ground := Ground.phase }, { on := 5, ground := Ground.phase }, { on := 6, ground := Ground.phase }, { on := 7, ground := Ground.phase }, { on := 8, ground := Ground.phase }, { on := 9, ground := Ground.phase }, { on := 10, ground := Ground.phase }, { on := 11, ground := Ground.phase }, { on := 12, ground := Ground.phase }, { on := 13, ground := Ground.phase }, { on := 14, ground := Ground.phase }, { on := 15, ground := Ground.phase }, { on := 16, ground := Ground.phase }, { on := 17, ground := Ground.phase }, { on := 18, ground := Ground.phase }, { on := 19, ground := Ground.phase }], guard := none }) (v := .pointer (some ⟨g2, n * 4 + 2 + 0, none⟩)) rfl (by kernel_rfl) (by kernel_rfl) (by kernel_rfl) (fun _ _ _ h => h) (Or.inl ⟨by kernel_rfl, fun W h => (by first | kernel_rfl | go_simp)⟩) hS2 ?_
      simp only [Act.put, List.setIfInBounds_toArray, List.set_cons_zero, List.set_cons_succ]
      refine wpAnyH_ready (rs := [23]) (by kernel_rfl) (by simp) ?_
      refine AllReadyH.cons (o := { dst := none, op := Op.store 9 (Operand.tmp 146) (Operand.tmp 140), type := 0, pos := "base.go:406", after := #[{ on := 22, ground := Ground.data }, { on := 15, ground := Ground.data }, { on := 19, ground := Ground.chain }, { on := 0, ground := Ground.phase }, { on := 1, ground := Ground.phase }, { on := 2, ground := Ground.phase }, { on := 3, ground := Ground.phase }, { on := 4, ground := Ground.phase }, { on := 5, ground := Ground.phase }, { on := 6, ground := Ground.phase }, { on := 7, ground := Ground.phase }, { on := 8, ground := Ground.phase }, { on := 9, ground := Ground.phase }, { on := 10, ground := Ground.phase }, { on := 11, ground := Ground.phase }, { on := 12, ground := Ground.phase }, { on := 13, ground := Ground.phase }, { on := 14, ground := Ground.phase }, { on := 15, ground := Ground.phase }, { on := 16, ground := Ground.phase }, { on := 17, ground := Ground.phase }, { on := 18, ground := Ground.phase }, { on := 19, ground := Ground.phase }], guard := none }) rfl (fun K hK => ?_) AllReadyH.nil
      rw [if_pos (by kernel_rfl)]
      refine wp_st_str (v := text) (.tmp 146) (.tmp 140) (by kernel_rfl) rfl (by kernel_rfl) (by kernel_rfl) f2 z2 ?_
      refine hK.out _ _ (hS2.far hbg hxg) (fun hS3 => ?_)
      clear hK K
      refine wpAnyH_done (by kernel_rfl) ?_ _
      have k0 : ((W.drew.setCell ⟨g2, n * 4 + 0, none⟩ (.bool true)).setCell ⟨g2, n * 4 + 2 + 0, none⟩ (.string text)).cell? ⟨w.heap.size, 0, none⟩ = some (.int .i64 5) := by
        rw [World.cell?_setCell_far _ _ _ _ (Ne.symm hxg), World.cell?_setCell_far _ _ _ _ (Ne.symm hxg)]; exact c0
      have DONE := hide (IHeld.of ((unhide BB).drew) (unhide FIN))
      clear hS hS2 hS3 FIN
      generalize ((W.drew.setCell ⟨g2, n * 4 + 0, none⟩ (.bool true)).setCell ⟨g2, n * 4 + 2 + 0, none⟩ (.string text)) = WE at k0 DONE ⊢
      clear f1 f2 z1 z2 hPS tv fv t2 c0 c3 c6
      go_wp2_with fail
      go_ret
      exact ⟨rfl, unhide DONE⟩
    · skip
      go_enter Tryz.func31, Tryz.ntmps31
      go_wp2_with fail
      refine (unhide C1).mono ?_
      rintro e w1 ⟨rfl, bel⟩
      have B1 : Below w.heap.size w w1 := (unhide BEL).trans (bel.mono (by simp))
      have c1 : w1.cell? ⟨w.heap.size, 1, none⟩ = some (.int .i64 dir) := unhide HC w1 bel 1 _ rfl
      have c4 : w1.cell? ⟨w.heap.size, 4, none⟩ = some (.string name) := unhide HC w1 bel 4 _ rfl
      obtain ⟨ta, fa, tc, fc, e1, e2, R1⟩ := ((unhide HR).below B1).rd h1 h2
      have C2 := hide (rAt_any dir name w1 R1)
      rw [unhide HA] at C2
      have BL := hide bel
      clear R1 bel HA e1 e2
      go_wp2_with fail
      refine (unhide C2).mono ?_
      rintro e w2 ⟨rfl, q, rfl⟩
      have B2 : Below w.heap.size w (w1.drewN q) := belowN B1
      have b2 : Below (w.alloc (.cells (stpA ⟨5, dir, toDir, ((1 : Nat) : Int), name, tu, text⟩) 37)).heap.size (w.alloc (.cells (stpA ⟨5, dir, toDir, ((1 : Nat) : Int), name, tu, text⟩) 37)) (w1.drewN q) := belowN (unhide BL)
      clear B1 BL c1 c4 C2
      generalize w1.drewN q = W at B2 b2 ⊢
      have HW := hide ((unhide HR).below B2)
      have c0 : W.cell? ⟨w.heap.size, 0, none⟩ = some (.int .i64 5) := unhide HC W b2 0 _ rfl
      have c3 : W.cell? ⟨w.heap.size, 3, none⟩ = some (.int .i64 1) := unhide HC W b2 3 _ rfl
      have c6 : W.cell? ⟨w.heap.size, 6, none⟩ = some (.string text) := unhide HC W b2 6 _ rfl
      obtain ⟨g2, cp2, ev, hgl, hgc⟩ := row_cell (unhide HW).rowF (by omega)
      subst ev
      obtain ⟨ta, fa, tc, fc, et, ef, R2⟩ := (unhide HW).rd h1 h2
      simp only [Value.slice.injEq] at ef
      obtain ⟨rfl, _, ecp⟩ := ef
      subst ecp
      have tv := R2.tv
      have fv := R2.fv
      have blt := R2.lt
      obtain ⟨gt, ot, rfl, hgt, _, _, t2⟩ := R2.tags i hi
      rw [hfile] at t2
      obtain ⟨gf, og, ef, hgf, f1', f2'⟩ := R2.files n hnlt
      simp only [Option.some.injEq, Addr.mk.injEq, and_true] at ef
      obtain ⟨rfl, rfl⟩ := ef
      rw [Nat.zero_add] at f1' f2'
      have f1 := f1' 1 (by omega)
      have f2 := f2' 1 (by omega)
      have z1 : W.frozen? ⟨g2, n * 4 + 1, none⟩ = false := (unhide HW).rowF.frozenAt _
      have z2 : (W.setCell ⟨g2, n * 4 + 1, none⟩ (.bool true)).frozen? ⟨g2, n * 4 + 2 + 1, none⟩ = false := ((unhide HW).rowF.stored _ _).1.frozenAt _
      have f2 : (W.setCell ⟨g2, n * 4 + 1, none⟩ (.bool true)).cell? ⟨g2, n * 4 + 2 + 1, none⟩ = some (.string (S.txt n 1)) := by
        rw [World.cell?_setCell_other _ _ _ _ (by simp only [ne_eq, Addr.mk.injEq, not_and]; omega)]; exact f2
      have hbg : b ≠ g2 := fun e => (unhide HW).offF (by rw [e]; rfl)
      have hxg : w.heap.size ≠ g2 := fun e => by
        have := (unhide HR).lt (k := g2) (.inr (.inr rfl))
        omega
      have FIN := hide (((unhide HW).below (Below.refl _ _).drew).put hnlt (show 1 < 2 by omega) true text (unhide HI))
      have iz : (i : Int) < (l.length : Int) := by omega
      have u1 : decide ((i : Int) < 0) = false := by simp
      have BB := hide B2
      have hPS : PS b w.heap.size S.next g2 cp2 (1 : Int) text W.drew := ⟨fv, c3, c6⟩
      obtain ⟨ln, hln⟩ : ∃ ln, ln = l.length := ⟨_, rfl⟩
      obtain ⟨xb, hxb⟩ : ∃ xb, xb = w.heap.size := ⟨_, rfl⟩
      have HX := hide hxb
      clear f1' f2' R2 et hgc B2 b2 HI
      go_wp2_with fail
      try (go_quiet (fail); go_wp2_with fail)
      refine wp_region_held_drew (S := PS b w.heap.size S.next g2 cp2 (1 : Int) text) (by kernel_rfl) hPS (fun hS => ?_)
      refine wpAnyH_take (i := 0) (oi := { dst := some 125, op := Op.move (Operand.tmp 0), type := 67, pos := "base.go:406", after := #[], guard := none }) (v := .pointer (some ⟨b, 0, none⟩)) rfl (by kernel_rfl) (by kernel_rfl) (by kernel_rfl) (fun _ _ _ h => h) (Or.inl ⟨by kernel_rfl, fun W h => (by first | kernel_rfl | go_simp)⟩) hS ?_
      simp only [Act.put, List.setIfInBounds_toArray, List.set_cons_zero, List.set_cons_succ]
      refine wpAnyH_take (i := 1) (oi := { dst := some 126, op := Op.nilCheck (Operand.tmp 125), type := 0, pos := "base.go:406", after := #[{ on := 0, ground := Ground.data }], guard := none }) (v := .pointer (some ⟨b, 0, none⟩)) rfl (by kernel_rfl) (by kernel_rfl) (by kernel_rfl) (fun _ _ _ h => h) (Or.inl ⟨by kernel_rfl, fun W h => (by first | kernel_rfl | go_simp)⟩) hS ?_
      simp only [Act.put, List.setIfInBounds_toArray, List.set_cons_zero, List.set_cons_succ]
      refine wpAnyH_take (i := 2) (oi := { dst := some 127, op := Op.fieldAddr 71 (Operand.tmp 126) 1, type := 0, pos := "base.go:406", after := #[{ on := 1, ground := Ground.data }], guard := none }) (v := .pointer (some ⟨b, 1, none⟩)) rfl (by kernel_rfl) (by kernel_rfl) (by kernel_rfl) (fun _ _ _ h => h) (Or.inl ⟨by kernel_rfl, fun W h => (by first | kernel_rfl | go_simp)⟩) hS ?_
      simp only [Act.put, List.setIfInBounds_toArray, List.set_cons_zero, List.set_cons_succ]
      refine wpAnyH_take (i := 3) (oi := { dst := some 128, op := Op.load 69 (Operand.tmp 127), type := 69, pos := "base.go:406", after := #[{ on := 2, ground := Ground.data }], guard := none }) (v := .slice (some ⟨g2, 0, none⟩) S.next cp2) rfl (by kernel_rfl) (by kernel_rfl) (by kernel_rfl) (fun _ _ _ h => h) (Or.inl ⟨by kernel_rfl, fun W h => run_ld_sl (.tmp 127) (by kernel_rfl) (by kernel_rfl) W h.1⟩) hS ?_
      simp only [Act.put, List.setIfInBounds_toArray, List.set_cons_zero, List.set_cons_succ]
      refine wpAnyH_take (i := 4) (oi := { dst := some 129, op := Op.move (Operand.tmp 7), type := 3, pos := "base.go:406", after := #[], guard := none }) (v := .int .i64 (n : Nat)) rfl (by kernel_rfl) (by kernel_rfl) (by kernel_rfl) (fun _ _ _ h => h) (Or.inl ⟨by kernel_rfl, fun W h => (by first | kernel_rfl | go_simp)⟩) hS ?_
      simp only [Act.put, List.setIfInBounds_toArray, List.set_cons_zero, List.set_cons_succ]
      refine wpAnyH_take (i := 5) (oi := { dst := some 130, op := Op.fieldAddr 37 (Operand.tmp 3) 3, type := 0, pos := "base.go:406", after := #[], guard := none }) (v := .pointer (some ⟨w.heap.size, 3, none⟩)) rfl (by kernel_rfl) (by kernel_rfl) (by kernel_rfl) (fun _ _ _ h => h) (Or.inl ⟨by kernel_rfl, fun W h => (by first | kernel_rfl | go_simp)⟩) hS ?_
      simp only [Act.put, List.setIfInBounds_toArray, List.set_cons_zero, List.set_cons_succ]
      refine wpAnyH_take (i := 6) (oi := { dst := some 131, op := Op.load 3 (Operand.tmp 130), type := 3, pos := "base.go:406", after := #[{ on := 5, ground := Ground.data }], guard := none }) (v := .int .i64 1) rfl (by kernel_rfl) (by kernel_rfl) (by kernel_rfl) (fun _ _ _ h => h) (Or.inl ⟨by kernel_rfl, fun W h => run_ld_int (.tmp 130) (by kernel_rfl) (by kernel_rfl) W h.2.1⟩) hS ?_
      simp only [Act.put, List.setIfInBounds_toArray, List.set_cons_zero, List.set_cons_succ]
      refine wpAnyH_take (i := 7) (oi := { dst := some 132, op := Op.move (Operand.tmp 0), type := 67, pos := "base.go:406", after := #[], guard := none }) (v := .pointer (some ⟨b, 0, none⟩)) rfl (by kernel_rfl) (by kernel_rfl) (by kernel_rfl) (fun _ _ _ h => h) (Or.inl ⟨by kernel_rfl, fun W h => (by first | kernel_rfl | go_simp)⟩) hS ?_
      simp only [Act.put, List.setIfInBounds_toArray, List.set_cons_zero, List.set_cons_succ]
      refine wpAnyH_take (i := 8) (oi := { dst := some 133, op := Op.nilCheck (Operand.tmp 132), type := 0, pos := "base.go:406", after := #[{ on := 7, ground := Ground.data }], guard := none }) (v := .pointer (some ⟨b, 0, none⟩)) rfl (by kernel_rfl) (by kernel_rfl) (by kernel_rfl) (fun _ _ _ h => h) (Or.inl ⟨by kernel_rfl, fun W h => (by first | kernel_rfl | go_simp)⟩) hS ?_
      simp only [Act.put, List.setIfInBounds_toArray, List.set_cons_zero, List.set_cons_succ]
      refine wpAnyH_take (i := 9) (oi := { dst := some 134, op := Op.fieldAddr 71 (Operand.tmp 133) 1, type := 0, pos := "base.go:406", after := #[{ on := 8, ground := Ground.data }], guard := none }) (v := .pointer (some ⟨b, 1, none⟩)) rfl (by kernel_rfl) (by kernel_rfl) (by kernel_rfl) (fun _ _ _ h => h) (Or.inl ⟨by kernel_rfl, fun W h => (by first | kernel_rfl | go_simp)⟩) hS ?_
      simp only [Act.put, List.setIfInBounds_toArray, List.set_cons_zero, List.set_cons_succ]
      refine wpAnyH_take (i := 10) (oi := { dst := some 135, op := Op.load 69 (Operand.tmp 134), type := 69, pos := "base.go:406", after := #[{ on := 9, ground := Ground.data }], guard := none }) (v := .slice (some ⟨g2, 0, none⟩) S.next cp2) rfl (by kernel_rfl) (by kernel_rfl) (by kernel_rfl) (fun _ _ _ h => h) (Or.inl ⟨by kernel_rfl, fun W h => run_ld_sl (.tmp 134) (by kernel_rfl) (by kernel_rfl) W h.1⟩) hS ?_
      simp only [Act.put, List.setIfInBounds_toArray, List.set_cons_zero, List.set_cons_succ]
      refine wpAnyH_take (i := 11) (oi := { dst := some 136, op := Op.move (Operand.tmp 7), type := 3, pos := "base.go:406", after := #[{ on := 19, ground := Ground.gcOnly Departure.lateStores }], guard := none }) (v := .int .i64 (n : Nat)) rfl (by kernel_rfl) (by kernel_rfl) (by kernel_rfl) (fun _ _ _ h => h) (Or.inl ⟨by kernel_rfl, fun W h => (by first | kernel_rfl | go_simp)⟩) hS ?_
      simp only [Act.put, List.setIfInBounds_toArray, List.set_cons_zero, List.set_cons_succ]
      refine wpAnyH_take (i := 12) (oi := { dst := some 137, op := Op.fieldAddr 37 (Operand.tmp 3) 3, type := 0, pos := "base.go:406", after := #[{ on := 19, ground := Ground.gcOnly Departure.lateStores }], guard := none }) (v := .pointer (some ⟨w.heap.size, 3, none⟩)) rfl (by kernel_rfl) (by kernel_rfl) (by kernel_rfl) (fun _ _ _ h => h) (Or.inl ⟨by kernel_rfl, fun W h => (by first | kernel_rfl | go_simp)⟩) hS ?_
      simp only [Act.put, List.setIfInBounds_toArray, List.set_cons_zero, List.set_cons_succ]
      refine wpAnyH_take (i := 13) (oi := { dst := some 138, op := Op.load 3 (Operand.tmp 137), type := 3, pos := "base.go:406", after := #[{ on := 12, ground := Ground.data }, { on := 19, ground := Ground.gcOnly Departure.lateStores }], guard := none }) (v := .int .i64 1) rfl (by kernel_rfl) (by kernel_rfl) (by kernel_rfl) (fun _ _ _ h => h) (Or.inl ⟨by kernel_rfl, fun W h => run_ld_int (.tmp 137) (by kernel_rfl) (by kernel_rfl) W h.2.1⟩) hS ?_
      simp only [Act.put, List.setIfInBounds_toArray, List.set_cons_zero, List.set_cons_succ]
      refine wpAnyH_take (i := 14) (oi := { dst := some 139, op := Op.fieldAddr 37 (Operand.tmp 3) 6, type := 0, pos := "base.go:406", after := #[{ on := 19, ground := Ground.gcOnly Departure.lateStores }], guard := none }) (v := .pointer (some ⟨w.heap.size, 6, none⟩)) rfl (by kernel_rfl) (by kernel_rfl) (by kernel_rfl) (fun _ _ _ h => h) (Or.inl ⟨by kernel_rfl, fun W h => (by first | kernel_rfl | go_simp)⟩) hS ?_
      simp only [Act.put, List.setIfInBounds_toArray, List.set_cons_zero, List.set_cons_succ]
      refine wpAnyH_take (i := 15) (oi := { dst := some 140, op := Op.load 9 (Operand.tmp 139), type := 9, pos := "base.go:406", after := #[{ on := 14, ground := Ground.data }, { on := 19, ground := Ground.gcOnly Departure.lateStores }], guard := none }) (v := .string text) rfl (by kernel_rfl) (by kernel_rfl) (by kernel_rfl) (fun _ _ _ h => h) (Or.inl ⟨by kernel_rfl, fun W h => run_ld_str (.tmp 139) (by kernel_rfl) (by kernel_rfl) W h.2.2⟩) hS ?_
      simp only [Act.put, List.setIfInBounds_toArray, List.set_cons_zero, List.set_cons_succ]
      refine wpAnyH_take (i := 16) (oi := { dst := some 141, op := Op.indexAddr 69 (Operand.tmp 128) (Operand.tmp 129), type := 0, pos := "base.go:406", after := #[{ on := 3, ground := Ground.data }, { on := 4, ground := Ground.data }], guard := none }) (v := .pointer (some ⟨g2, n * 4, none⟩)) rfl (by kernel_rfl) (by kernel_rfl) (by kernel_rfl) (fun _ _ _ h => h) (Or.inl ⟨by kernel_rfl, fun W h => run_idx_file (c := cp2) (.tmp 128) (.tmp 129) (by kernel_rfl) (by kernel_rfl) (by kernel_rfl) hnlt W⟩) hS ?_
      simp only [Act.put, List.setIfInBounds_toArray, List.set_cons_zero, List.set_cons_succ]
      refine wpAnyH_take (i := 17) (oi := { dst := some 142, op := Op.fieldAddr 100 (Operand.tmp 141) 0, type := 0, pos := "base.go:406", after := #[{ on := 16, ground := Ground.data }], guard := none }) (v := .pointer (some ⟨g2, n * 4, none⟩)) rfl (by kernel_rfl) (by kernel_rfl) (by kernel_rfl) (fun _ _ _ h => h) (Or.inl ⟨by kernel_rfl, fun W h => (by first | kernel_rfl | go_simp)⟩) hS ?_
      simp only [Act.put, List.setIfInBounds_toArray, List.set_cons_zero, List.set_cons_succ]
      refine wpAnyH_take (i := 18) (oi := { dst := some 143, op := Op.indexAddr 97 (Operand.tmp 142) (Operand.tmp 131), type := 0, pos := "base.go:406", after := #[{ on := 17, ground := Ground.data }, { on := 6, ground := Ground.data }, { on := 0, ground := Ground.phase }, { on := 1, ground := Ground.phase }, { on := 2, ground := Ground.phase }, { on := 3, ground := Ground.phase }, { on := 4, ground := Ground.phase }, { on := 5, ground := Ground.phase }, { on := 6, ground := Ground.phase }, { on := 7, ground := Ground.textOnly Departure.lateStores }, { on := 8, ground := Ground.textOnly Departure.lateStoresUnsure }, { on := 9, ground := Ground.textOnly Departure.lateStoresUnsure }, { on := 10, ground := Ground.phase }, { on := 11, ground := Ground.textOnly Departure.lateStores }, { on := 12, ground := Ground.textOnly Departure.lateStores }, { on := 13, ground := Ground.textOnly Departure.lateStores }, { on := 14, ground := Ground.textOnly Departure.lateStores }, { on := 15, ground := Ground.textOnly Departure.lateStores }], guard := none }) (v := .pointer (some ⟨g2, n * 4 + 1, none⟩)) rfl (by kernel_rfl) (by kernel_rfl) (by kernel_rfl) (fun _ _ _ h => h) (Or.inl ⟨by kernel_rfl, fun W h => (by first | kernel_rfl | go_simp)⟩) hS ?_
      simp only [Act.put, List.setIfInBounds_toArray, List.set_cons_zero, List.set_cons_succ]
      refine wpAnyH_take (i := 20) (oi := { dst := some 144, op := Op.indexAddr 69 (Operand.tmp 135) (Operand.tmp 136), type := 0, pos := "base.go:406", after := #[{ on := 10, ground := Ground.data }, { on := 11, ground := Ground.data }], guard := none }) (v := .pointer (some ⟨g2, n * 4, none⟩)) rfl (by kernel_rfl) (by kernel_rfl) (by kernel_rfl) (fun _ _ _ h => h) (Or.inl ⟨by kernel_rfl, fun W h => run_idx_file (c := cp2) (.tmp 135) (.tmp 136) (by kernel_rfl) (by kernel_rfl) (by kernel_rfl) hnlt W⟩) hS ?_
      simp only [Act.put, List.setIfInBounds_toArray, List.set_cons_zero, List.set_cons_succ]
      refine wpAnyH_take (i := 21) (oi := { dst := some 145, op := Op.fieldAddr 100 (Operand.tmp 144) 1, type := 0, pos := "base.go:406", after := #[{ on := 20, ground := Ground.data }], guard := none }) (v := .pointer (some ⟨g2, n * 4 + 2, none⟩)) rfl (by kernel_rfl) (by kernel_rfl) (by kernel_rfl) (fun _ _ _ h => h) (Or.inl ⟨by kernel_rfl, fun W h => (by first | kernel_rfl | go_simp)⟩) hS ?_
      simp only [Act.put, List.setIfInBounds_toArray, List.set_cons_zero, List.set_cons_succ]
      refine wpAnyH_ready (rs := [19]) (by kernel_rfl) (by simp) ?_
      refine AllReadyH.cons (o := { dst := none, op := Op.store 4 (Operand.tmp 143) (Operand.const (Value.bool true)), type := 0, pos := "base.go:406", after := #[{ on := 18, ground := Ground.data }, { on := 0, ground := Ground.phase }, { on := 1, ground := Ground.phase }, { on := 2, ground := Ground.phase }, { on := 3, ground := Ground.phase }, { on := 4, ground := Ground.phase }, { on := 5, ground := Ground.phase }, { on := 6, ground := Ground.phase }, { on := 7, ground := Ground.textOnly Departure.lateStores }, { on := 8, ground := Ground.textOnly Departure.lateStoresUnsure }, { on := 9, ground := Ground.textOnly Departure.lateStoresUnsure }, { on := 10, ground := Ground.phase }, { on := 11, ground := Ground.textOnly Departure.lateStores }, { on := 12, ground := Ground.textOnly Departure.lateStores }, { on := 13, ground := Ground.textOnly Departure.lateStores }, { on := 14, ground := Ground.textOnly Departure.lateStores }, { on := 15, ground := Ground.textOnly Departure.lateStores }], guard := none }) rfl (fun K hK => ?_) AllReadyH.nil
      rw [if_pos (by kernel_rfl)]
      refine wp_st_bool (v := true) (.tmp 143) (.const (.bool true)) (by kernel_rfl) rfl (by kernel_rfl) (by kernel_rfl) f1 z1 ?_
      refine hK.out _ _ (hS.far hbg hxg) (fun hS2 => ?_)
      clear hK K
      refine wpAnyH_take (i := 22) (oi := { dst := some 146, op := Op.indexAddr 98 (Operand.tmp 145) (Operand.tmp 138), type := 0, pos := "base.go:406", after := #[{ on := 21, ground := Ground.data }, { on := 13, ground := Ground.data }, { on := 0, ground := Ground.phase }, { on := 1, ground := Ground.phase }, { on := 2, ground := Ground.phase }, { on := 3, ground := Ground.phase }, { on := 4, ground := Ground.phase }, { on := 5, ground := Ground.phase }, { on := 6, ground := Ground.phase }, { on := 7, ground := Ground.phase }, { on := 8, ground := Ground.phase }, { on := 9, ground := Ground.phase }, { on := 10, ground := Ground.phase }, { on := 11, ground := Ground.phase }, { on := 12, ground := Ground.phase }, { on := 13, ground := Ground.phase }, { on := 14, ground := Ground.phase }, { on := 15, ground := Ground.phase }, { on := 16, ground := Ground.phase }, { on := 17, ground := Ground.phase }, { on := 18, ground := Ground.phase }, { on := 19, ground := Ground.phase }], guard := none }) (v := .pointer (some ⟨g2, n * 4 + 2 + 1, none⟩)) rfl (by kernel_rfl) (by kernel_rfl) (by kernel_rfl) (fun _ _ _ h => h) (Or.inl ⟨by kernel_rfl, fun W h => (by first | kernel_rfl | go_simp)⟩) hS2 ?_
      simp only [Act.put, List.setIfInBounds_toArray, List.set_cons_zero, List.set_cons_succ]
      refine wpAnyH_ready (rs := [23]) (by kernel_rfl) (by simp) ?_
      refine AllReadyH.cons (o := { dst := none, op := Op.store 9 (Operand.tmp 146) (Operand.tmp 140), type := 0, pos := "base.go:406", after := #[{ on := 22, ground := Ground.data }, { on := 15, ground := Ground.data }, { on := 19, ground := Ground.chain }, { on := 0, ground := Ground.phase }, { on := 1, ground := Ground.phase }, { on := 2, ground := Ground.phase }, { on := 3, ground := Ground.phase }, { on := 4, ground := Ground.phase }, { on := 5, ground := Ground.phase }, { on := 6, ground := Ground.phase }, { on := 7, ground := Ground.phase }, { on := 8, ground := Ground.phase }, { on := 9, ground := Ground.phase }, { on := 10, ground := Ground.phase }, { on := 11, ground := Ground.phase }, { on := 12, ground := Ground.phase }, { on := 13, ground := Ground.phase }, { on := 14, ground := Ground.phase }, { on := 15, ground := Ground.phase }, { on := 16, ground := Ground.phase }, { on := 17, ground := Ground.phase }, { on := 18, ground := Ground.phase }, { on := 19, ground := Ground.phase }], guard := none }) rfl (fun K hK => ?_) AllReadyH.nil
      rw [if_pos (by kernel_rfl)]
      refine wp_st_str (v := text) (.tmp 146) (.tmp 140) (by kernel_rfl) rfl (by kernel_rfl) (by kernel_rfl) f2 z2 ?_
      refine hK.out _ _ (hS2.far hbg hxg) (fun hS3 => ?_)
      clear hK K
      refine wpAnyH_done (by kernel_rfl) ?_ _
      have k0 : ((W.drew.setCell ⟨g2, n * 4 + 1, none⟩ (.bool true)).setCell ⟨g2, n * 4 + 2 + 1, none⟩ (.string text)).cell? ⟨w.heap.size, 0, none⟩ = some (.int .i64 5) := by
        rw [World.cell?_setCell_far _ _ _ _ (Ne.symm hxg), World.cell?_setCell_far _ _ _ _ (Ne.symm hxg)]; exact c0
      have DONE := hide (IHeld.of ((unhide BB).drew) (unhide FIN))
      clear hS hS2 hS3 FIN
      generalize ((W.drew.setCell ⟨g2, n * 4 + 1, none⟩ (.bool true)).setCell ⟨g2, n * 4 + 2 + 1, none⟩ (.string text)) = WE at k0 DONE ⊢
      clear f1 f2 z1 z2 hPS tv fv t2 c0 c3 c6
      go_wp2_with fail
      go_ret
      exact ⟨rfl, unhide DONE⟩
end
end Idl
end Go.Proofs.YtmlhalhjfcfagabGreat
