/-
  The reference's world in memory, for those who only read: the walks of (*eiderdownref.Ideal).at, Same.
-/
import Derived.Test.YtmhbphmdfnlmkaaJb
import Derived.Test.YtmhbphmdfnlmkaaJc
import Derived.BigQuiet
namespace Go.Proofs.Ytmhbphmdfnlmkaa
open Go.RowKit
namespace Idl
theorem belowN {B : Nat} {a w : World} (h : Below B a w) : ∀ {n : Nat}, Below B a (w.drewN n) := fun {_} => ⟨h.os, h.tape, h.output, h.size, h.block⟩
theorem drewNN (w : World) (a b : Nat) : (w.drewN a).drewN b = w.drewN (a + b) := by simp [World.drewN, Nat.add_assoc]
theorem drawn3 {w : World} {a b c : Nat} : ((w.drewN a).drewN b).drewN c = w.drewN (a + (b + c)) := by rw [drewNN, drewNN]
/-- the tags' cells: a row of three a tag; the files': of four a file -/
structure IRd (w : World) (b : Nat) (S : St) (l : List Tg) (ta fa : Option Addr) (tc fc : Nat) : Prop where
  lt : b < w.heap.size
  tv : w.cell? ⟨b, 0, none⟩ = some (.slice ta l.length tc)
  fv : w.cell? ⟨b, 1, none⟩ = some (.slice fa S.next fc)
  few : l.length ≤ 1000000
  many : S.next ≤ 1000000
  tags : ∀ i (h : i < l.length), ∃ g o, ta = some ⟨g, o, none⟩ ∧ g < w.heap.size ∧ w.cell? ⟨g, o + i * 3, none⟩ = some (.int .i64 l[i].dir) ∧ w.cell? ⟨g, o + i * 3 + 1, none⟩ = some (.string l[i].name) ∧ w.cell? ⟨g, o + i * 3 + 2, none⟩ = some (.int .i64 (l[i].file : Nat))
  files : ∀ i, i < S.next → ∃ g o, fa = some ⟨g, o, none⟩ ∧ g < w.heap.size ∧ (∀ p, p < 2 → w.cell? ⟨g, o + i * 4 + p, none⟩ = some (.bool (S.has i p))) ∧ ∀ p, p < 2 → w.cell? ⟨g, o + i * 4 + 2 + p, none⟩ = some (.string (S.txt i p))
theorem atI_at {l : List Tg} {d : Int} {s : ByteArray} {i : Nat} (h : i < l.length) (hp : (l[i].dir == d && keq l[i].name s) = true) (hn : ∀ j (hj : j < i), (l[j].dir == d && keq l[j].name s) = false) : atI l d s = (i : Int) := by
  unfold atI tagAt
  rw [List.findIdx?_eq_some_iff_getElem.2 ⟨h, hp, fun j hj => by rw [hn j hj]; simp⟩]
theorem atI_no {l : List Tg} {d : Int} {s : ByteArray} (hn : ∀ j (hj : j < l.length), (l[j].dir == d && keq l[j].name s) = false) : atI l d s = -1 := by
  unfold atI tagAt
  rw [List.findIdx?_eq_none_iff.2 fun t ht => by
    obtain ⟨j, hj, rfl⟩ := List.getElem_of_mem ht
    exact hn j hj]
set_option maxHeartbeats 2000000 in
theorem rAt_any {b : Nat} {S : St} {l : List Tg} {ta fa : Option Addr} {tc fc : Nat} (d : Int) (s : ByteArray) (w : World) (h : IRd w b S l ta fa tc fc) :
    Calls Try.prog 66 #[.pointer (some ⟨b, 0, none⟩), .int .i64 d, .string s] w fun e w' => e = .returned (.int .i64 (atI l d s)) ∧ ∃ q, w' = w.drewN q := by
  have tv := h.tv
  have few := h.few
  have lt := h.lt
  have HT := hide h.tags
  obtain ⟨n, hn⟩ : ∃ n, n = l.length := ⟨_, rfl⟩
  have HN := hide hn
  rw [← hn] at tv few
  clear h hn
  go_enter Try.func66, Try.ntmps66
  go_wp2_with fail
  go_loopw [7] (fun i wr => ∃ k q : Nat, k ≤ n ∧ i = .int .i64 k ∧ Hid (∀ j (hj : j < l.length), j < k → (l[j].dir == d && keq l[j].name s) = false) ∧ wr = w.drewN q) (fun i _ => n - (intOf i).toNat)
  case atStart => exact ⟨0, 0, Nat.zero_le _, rfl, hide fun j hj h => by omega, rfl⟩
  case round =>
    obtain ⟨k, q, hk, rfl, HA, rfl⟩ := hrel
    by_cases hlt : k < n
    · have tn : decide ((k : Int) < (n : Int)) = true := by simp; omega
      have kz : (k : Int) < (n : Int) := by omega
      have hkl : k < l.length := by have := unhide HN; omega
      obtain ⟨g, o, rfl, hg, c0, c1, _⟩ := unhide HT k hkl
      have NX := hide (fun (h : (l[k].dir == d && keq l[k].name s) = false) => (fun j (hj : j < l.length) (hjk : j < k + 1) => by
        by_cases e : j = k
        · subst e; exact h
        · exact unhide HA j hj (by omega) : ∀ j (hj : j < l.length), j < k + 1 → (l[j].dir == d && keq l[j].name s) = false))
      have YES := hide (fun (h : (l[k].dir == d && keq l[k].name s) = true) => atI_at hkl h (fun j hj => unhide HA j (by omega) hj))
      have EK := hide (show keq l[k].name s = (l[k].name.toList == s.toList) from rfl)
      cases h1 : (l[k].dir == d)
      · have W := hide (unhide NX (by rw [h1]; rfl))
        clear NX YES HA
        go_wp2_with fail
        try (go_quiet (fail); go_wp2_with fail)
        go_roundw
        case rel => exact ⟨k + 1, _, by omega, by go_num, W, by first | rfl | exact drewNN _ _ _⟩
        case measure => simp [intOf]; omega
      · cases h2 : (l[k].name.toList == s.toList)
        · have W := hide (unhide NX (by rw [h1, unhide EK, h2]; rfl))
          clear NX YES HA
          go_wp2_with fail
          try (go_quiet (fail); go_wp2_with fail)
          go_roundw
          case rel => exact ⟨k + 1, _, by omega, by go_num, W, by first | rfl | exact drewNN _ _ _⟩
          case measure => simp [intOf]; omega
        · have HE := hide (unhide YES (by rw [h1, unhide EK, h2]; rfl))
          clear NX YES HA
          go_wp2_with fail
          try (go_quiet (fail); go_wp2_with fail)
          go_ret
          exact ⟨by rw [unhide HE]; rfl, by first | exact ⟨_, rfl⟩ | exact ⟨_, drewNN _ _ _⟩⟩
    · have tn : decide ((k : Int) < (n : Int)) = false := by simp; omega
      have HE := hide (atI_no (l := l) (d := d) (s := s) (fun j hj => unhide HA j hj (by have := unhide HN; omega)))
      go_wp2_with fail
      go_ret
      exact ⟨by rw [unhide HE]; rfl, _, rfl⟩
theorem IRd.draw {w : World} {b : Nat} {S : St} {l : List Tg} {ta fa : Option Addr} {tc fc : Nat} (h : IRd w b S l ta fa tc fc) (q : Nat) : IRd (w.drewN q) b S l ta fa tc fc := ⟨h.lt, h.tv, h.fv, h.few, h.many, h.tags, h.files⟩
theorem same_some {S : St} {d e : Int} {s t : ByteArray} {a b : Nat} (h1 : lookS S d s = some a) (h2 : lookS S e t = some b) : same S d s e t = (a == b) := by unfold same; rw [h1, h2]
theorem same_none1 {S : St} {d e : Int} {s t : ByteArray} (h1 : lookS S d s = none) : same S d s e t = false := by unfold same; rw [h1]
theorem same_none2 {S : St} {d e : Int} {s t : ByteArray} (h2 : lookS S e t = none) : same S d s e t = false := by
  unfold same; rw [h2]
  cases lookS S d s <;> rfl
set_option maxHeartbeats 2000000 in
theorem rSame_any {b : Nat} {S : St} {l : List Tg} {ta fa : Option Addr} {tc fc : Nat} (hT : Tags S l) (d : Int) (s : ByteArray) (e : Int) (t : ByteArray) (w : World) (h : IRd w b S l ta fa tc fc) :
    Calls Try.prog 35 #[.pointer (some ⟨b, 0, none⟩), .int .i64 d, .string s, .int .i64 e, .string t] w fun r w' => r = .returned (.bool (same S d s e t)) ∧ ∃ q, w' = w.drewN q := by
  have C1 := hide (rAt_any d s w h)
  have C2 := hide (fun q => rAt_any e t (w.drewN q) (h.draw q))
  have tv := h.tv
  have few := h.few
  have lt := h.lt
  have HT := hide h.tags
  rcases atI_lookS hT d s with ⟨a1, a2⟩ | ⟨i, hi, _, a1, a2⟩
  · have E := hide (same_none1 (e := e) (t := t) a2)
    rw [a1] at C1
    obtain ⟨y, hy⟩ : ∃ y, y = atI l e t := ⟨_, rfl⟩
    rw [← hy] at C2
    clear hy a1 a2 h
    go_enter Try.func35, Try.ntmps35
    go_wp2_with fail
    refine (unhide C1).mono ?_
    rintro r w1 ⟨rfl, q1, rfl⟩
    go_wp2_with fail
    refine (unhide C2 q1).mono ?_
    rintro r w1 ⟨rfl, q2, rfl⟩
    go_wp2_with fail
    try (go_quiet (fail); go_wp2_with fail)
    go_ret
    exact ⟨by rw [unhide E]; rfl, by first | exact ⟨_, rfl⟩ | exact ⟨_, drewNN _ _ _⟩ | exact ⟨_, drawn3⟩⟩
  · rcases atI_lookS hT e t with ⟨b1, b2⟩ | ⟨j, hj, _, b1, b2⟩
    · have E := hide (same_none2 (d := d) (s := s) b2)
      rw [a1] at C1
      rw [b1] at C2
      have u1 : decide ((i : Int) ≥ 0) = true := by simp
      have u2 : decide (0 ≤ (i : Int)) = true := by simp
      clear a1 a2 b1 b2 h
      go_enter Try.func35, Try.ntmps35
      go_wp2_with fail
      refine (unhide C1).mono ?_
      rintro r w1 ⟨rfl, q1, rfl⟩
      go_wp2_with fail
      refine (unhide C2 q1).mono ?_
      rintro r w1 ⟨rfl, q2, rfl⟩
      go_wp2_with fail
      try (go_quiet (fail); go_wp2_with fail)
      go_ret
      exact ⟨by rw [unhide E]; rfl, by first | exact ⟨_, rfl⟩ | exact ⟨_, drewNN _ _ _⟩ | exact ⟨_, drawn3⟩⟩
    · have E := hide (same_some a2 b2)
      rw [a1] at C1
      rw [b1] at C2
      have u1 : decide ((i : Int) ≥ 0) = true := by simp
      have u2 : decide (0 ≤ (i : Int)) = true := by simp
      have u3 : decide ((j : Int) ≥ 0) = true := by simp
      have u4 : decide (0 ≤ (j : Int)) = true := by simp
      obtain ⟨g, o, rfl, hg, _, _, c2⟩ := unhide HT i hi
      obtain ⟨g', o', ee, hg', _, _, d2⟩ := unhide HT j hj
      obtain ⟨rfl, rfl⟩ : g = g' ∧ o = o' := by simpa using ee
      obtain ⟨n, hn⟩ : ∃ n, n = l.length := ⟨_, rfl⟩
      rw [← hn] at tv few hi hj
      have iz : (i : Int) < (n : Int) := by omega
      have jz : (j : Int) < (n : Int) := by omega
      obtain ⟨fa', hfa⟩ : ∃ x : Int, x = ((l[i]'(by omega)).file : Nat) := ⟨_, rfl⟩
      obtain ⟨fb', hfb⟩ : ∃ x : Int, x = ((l[j]'(by omega)).file : Nat) := ⟨_, rfl⟩
      have EQ := hide (show (fa' == fb') = ((l[i]'(by omega)).file == (l[j]'(by omega)).file) by rw [hfa, hfb]; exact Bool.eq_iff_iff.2 (by simp only [beq_iff_eq]; omega))
      rw [← hfa] at c2
      rw [← hfb] at d2
      clear a1 a2 b1 b2 h hfa hfb ee hn
      go_enter Try.func35, Try.ntmps35
      go_wp2_with fail
      refine (unhide C1).mono ?_
      rintro r w1 ⟨rfl, q1, rfl⟩
      go_wp2_with fail
      refine (unhide C2 q1).mono ?_
      rintro r w1 ⟨rfl, q2, rfl⟩
      go_wp2_with fail
      try (go_quiet (fail); go_wp2_with fail)
      go_ret
      exact ⟨by rw [unhide E, ← unhide EQ]; rfl, by first | exact ⟨_, rfl⟩ | exact ⟨_, drewNN _ _ _⟩ | exact ⟨_, drawn3⟩ | exact ⟨_, by rw [drewNN, drewNN]⟩⟩
end Idl
end Go.Proofs.Ytmhbphmdfnlmkaa
