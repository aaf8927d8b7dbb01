/-
  The walks of ideal.World.Read and Same.
-/
import Derived.Test.YtmhbphmdfnlmkaaVh
namespace Go.Proofs.Ytmhbphmdfnlmkaa
open Go.RowKit
namespace Idl
section
variable {own : Nat → Prop} {sv : Nat → Value} {loc : Nat → Nat} {w : World} {b : Nat} {S : St}
theorem Rep.partCell (h : Rep own sv loc w b S) (n p : Nat) (hn : n < S.next) (hp : p < 2) :
    w.cell? ⟨loc n, p * 2, none⟩ = some (.bool (S.has n p)) ∧ w.cell? ⟨loc n, p * 2 + 1, none⟩ = some (.string (S.txt n p)) ∧ loc n < w.heap.size := by
  rw [cell_of_row w _ _ _ _ _ (h.fil n hn), cell_of_row w _ _ _ _ _ (h.fil n hn)]
  refine ⟨?_, ?_, h.size _ (h.filOwn n hn).1⟩ <;> match p, hp with
  | 0, _ => rfl
  | 1, _ => rfl
set_option maxHeartbeats 1000000 in
set_option maxRecDepth 100000 in
theorem Read_any (h : Rep own sv loc w b S) (hF : Few S 1000) (d : Int) (s : ByteArray) (hs : s.size ≤ maxLen) (p : Int) :
    Calls Try.prog 32 #[.pointer (some ⟨b, 0, none⟩), .int .i64 d, .string s, .int .i64 p] w fun e w' => e = .returned (.tuple #[.string (rdT S d s p), .bool (rdB S d s p), .int .i64 (code S (cut d s p))]) ∧ Below w.heap.size w w' := by
  have h0 : (none0).size ≤ maxLen := by unfold maxLen; exact Nat.zero_le _
  have hck := check_any h hF (cut d s p) hs h0 h0
  by_cases hc : code S (cut d s p) = 0
  · have g := goes hc
    have hlk := g.old (by simp [cut])
    obtain ⟨p0, p2⟩ := g.part (.inr rfl)
    have hin : isD d = true := g.din
    have hfl := fun W (bW : Below w.heap.size w W) => file_any (h.below bW) hF d s
    have hnx := old_lt h.inv hlk
    have eL : lookS S d s = some (the S (cut d s p)) := by rw [lookS_in hin]; exact hlk
    have eT : rdT S d s p = S.txt (the S (cut d s p)) p.toNat := by simp [rdT, hc]
    have eB : rdB S d s p = S.has (the S (cut d s p)) p.toNat := by simp [rdB, hc]
    rw [eL] at hfl
    simp only [fptr] at hfl
    have HFl := hide hfl
    rw [eT, eB, hc]
    rw [hc] at hck
    have p0' : 0 ≤ p := p0
    have p2' : p < 2 := p2
    have HPc := hide fun W (bW : Below w.heap.size w W) => (h.below bW).partCell (the S (cut d s p)) p.toNat hnx (by omega)
    obtain ⟨q, rfl⟩ := Int.eq_ofNat_of_zero_le p0'
    rw [Int.toNat_natCast] at HPc ⊢
    generalize the S (cut d s q) = n at HFl HPc ⊢
    generalize S.txt n q = tx at HPc ⊢
    generalize S.has n q = bx at HPc ⊢
    clear hfl eL eT eB hnx hin hlk g hc h hF p0 p2 h0
    simp only [cut, stpA, none0] at hck
    go_enter Try.func32, Try.ntmps32
    go_wp2_with fail
    refine hck.mono ?_
    rintro e w1 ⟨rfl, bel1⟩
    have f1 := unhide HFl w1 bel1
    have B1 := hide bel1
    clear bel1 hck
    go_wp2_with fail
    refine f1.mono ?_
    rintro e w2 ⟨rfl, bel2⟩
    have B2 := hide ((unhide B1).trans (bel2.mono (unhide B1).size))
    obtain ⟨k1, k2, k3⟩ := unhide HPc w2 (unhide B2)
    clear bel2 f1
    go_wp2_with fail
    go_quiet (fail)
    go_wp2
    go_ret3
    exact ⟨rfl, belowD (((unhide B2).alloc (unhide B2).size _))⟩
  · have eT : rdT S d s p = ⟨#[]⟩ := by simp [rdT, hc, none0]
    have eB : rdB S d s p = false := by simp [rdB, hc]
    rw [eT, eB]
    have hkb : (code S (cut d s p) != 0) = true := by simpa using hc
    generalize code S (cut d s p) = c at hck hkb ⊢
    clear hc h hF eT eB h0
    simp only [cut, stpA, none0] at hck
    go_enter Try.func32, Try.ntmps32
    go_wp2_with fail
    refine hck.mono ?_
    rintro e w1 ⟨rfl, bel1⟩
    have B1 := hide bel1
    clear bel1 hck
    go_wp2
    go_ret3
    exact ⟨rfl, unhide B1⟩
theorem run_equalIn_files (W : World) (m a c : Nat) (ca cc : Array Value) (ha : W.heap[a]? = some (.cells ca 97 (0, 0))) (hc : W.heap[c]? = some (.cells cc 97 (0, 0))) (na : ca.size ≠ 0) (nc : cc.size ≠ 0) :
    (Op.equalIn (m + 1) 92 (.pointer (some ⟨a, 0, none⟩)) (.pointer (some ⟨c, 0, none⟩))).run Try.prog W = .ok (a == c) W := by
  have hu := run_underlying (w := W) Try.underlying92
  have hs := Try.sizeOf97 W
  by_cases e : a = c
  · subst e
    simp [Op.equalIn, hu, hs, sameAddr]
  · have e2 : (a == c) = false := beq_eq_false_iff_ne.2 e
    have fa : W.frozen? ⟨a, 0, none⟩ = false := by simp [World.frozen?, ha]
    have fc : W.frozen? ⟨c, 0, none⟩ = false := by simp [World.frozen?, hc]
    have fa2 : W.frozen? ⟨a, ca.size, none⟩ = false := by simp [World.frozen?, ha]
    have fc2 : W.frozen? ⟨c, cc.size, none⟩ = false := by simp [World.frozen?, hc]
    have sa : W.shape? a = some (97, ca.size) := by simp [World.shape?, ha]
    have sc : W.shape? c = some (97, cc.size) := by simp [World.shape?, hc]
    obtain ⟨na', hna⟩ := Nat.exists_eq_succ_of_ne_zero na
    obtain ⟨nc', hnc⟩ := Nat.exists_eq_succ_of_ne_zero nc
    rw [hna] at fa2 sa
    rw [hnc] at fc2 sc
    simp [Op.equalIn, hu, hs, sameAddr, e, e2, frozen, noView, viewAt, mayBeOne, stringish, shape, Sem.run, fa, fc, fa2, fc2, sa, sc]
theorem run_eql_files (W : World) (a c : Nat) (ca cc : Array Value) (ha : W.heap[a]? = some (.cells ca 97 (0, 0))) (hc : W.heap[c]? = some (.cells cc 97 (0, 0))) (na : ca.size ≠ 0) (nc : cc.size ≠ 0) :
    (binOp .eql 92 (.pointer (some ⟨a, 0, none⟩)) (.pointer (some ⟨c, 0, none⟩))).run Try.prog W = .ok (.bool (a == c)) W := by
  have h := run_equalIn_files W 9999 a c ca cc ha hc na nc
  have h' : (Op.equal 92 (.pointer (some ⟨a, 0, none⟩)) (.pointer (some ⟨c, 0, none⟩))).run Try.prog W = .ok (a == c) W := h
  simp only [binOp]
  simp [h']
set_option maxHeartbeats 1000000 in
set_option maxRecDepth 100000 in
theorem Same_any (h : Rep own sv loc w b S) (hF : Few S 1000) (d : Int) (s : ByteArray) (d2 : Int) (s2 : ByteArray) :
    Calls Try.prog 34 #[.pointer (some ⟨b, 0, none⟩), .int .i64 d, .string s, .int .i64 d2, .string s2] w fun e w' => e = .returned (.bool (same S d s d2 s2)) ∧ Below w.heap.size w w' := by
  have hf1 := file_any h hF d s
  have HF2 := hide fun W (bW : Below w.heap.size w W) => file_any (h.below bW) hF d2 s2
  have hlow : ∀ d s n, lookS S d s = some n → n < S.next := fun d s n hh => by
    unfold lookS at hh
    split at hh
    · exact old_lt h.inv hh
    · cases hh
  have hinj := h.inj
  have HQ := hide fun W (bW : Below w.heap.size w W) n m (h1 : n < S.next) (h2 : m < S.next) => run_eql_files W (loc n) (loc m) _ _ ((h.below bW).fil n h1) ((h.below bW).fil m h2) (by simp [fileCells]) (by simp [fileCells])
  clear h hF
  cases e1 : lookS S d s with
  | none =>
    rw [e1] at hf1
    have e0 : same S d s d2 s2 = false := by simp [same, e1]
    rw [e0]
    clear e0 e1 hlow hinj HF2 HQ
    simp only [fptr] at hf1
    go_enter Try.func34, Try.ntmps34
    go_wp2_with fail
    refine hf1.mono ?_
    rintro e w1 ⟨rfl, bel1⟩
    have B1 := hide bel1
    clear bel1 hf1
    go_wp2
    go_ret
    exact ⟨rfl, unhide B1⟩
  | some n =>
    rw [e1] at hf1
    simp only [fptr] at hf1
    cases e2 : lookS S d2 s2 with
    | none =>
      rw [e2] at HF2
      have e0 : same S d s d2 s2 = false := by simp [same, e1, e2]
      rw [e0]
      clear e0 e1 e2 hlow hinj HQ
      simp only [fptr] at HF2
      go_enter Try.func34, Try.ntmps34
      go_wp2_with fail
      refine hf1.mono ?_
      rintro e w1 ⟨rfl, bel1⟩
      have f2 := unhide HF2 w1 bel1
      have B1 := hide bel1
      clear bel1 hf1
      go_wp2_with fail
      refine f2.mono ?_
      rintro e w2 ⟨rfl, bel2⟩
      have B2 := hide ((unhide B1).trans (bel2.mono (unhide B1).size))
      clear bel2 f2
      go_wp2
      go_ret
      exact ⟨rfl, unhide B2⟩
    | some m =>
      rw [e2] at HF2
      have e0 : same S d s d2 s2 = (n == m) := by simp [same, e1, e2]
      have hnm : (loc n == loc m) = (n == m) := by
        by_cases q : n = m
        · subst q; simp
        · rw [beq_eq_false_iff_ne.2 q, beq_eq_false_iff_ne]
          exact fun q' => q (hinj n m (hlow _ _ _ e1) (hlow _ _ _ e2) q')
      rw [e0, ← hnm]
      have HQ2 := hide fun W bW => unhide HQ W bW n m (hlow _ _ _ e1) (hlow _ _ _ e2)
      clear e0 e1 e2 hlow hinj hnm HQ
      simp only [fptr] at HF2
      generalize loc n = ln at hf1 HQ2 ⊢
      generalize loc m = lm at HF2 HQ2 ⊢
      go_enter Try.func34, Try.ntmps34
      go_wp2_with fail
      refine hf1.mono ?_
      rintro e w1 ⟨rfl, bel1⟩
      have f2 := unhide HF2 w1 bel1
      have B1 := hide bel1
      clear bel1 hf1
      go_wp2_with fail
      refine f2.mono ?_
      rintro e w2 ⟨rfl, bel2⟩
      have B2 := hide ((unhide B1).trans (bel2.mono (unhide B1).size))
      have hq := unhide HQ2 w2 (unhide B2)
      clear bel2 f2
      go_wp2
      all_goals
        go_ret
        refine ⟨?_, unhide B2⟩
        rfl
end
end Idl
end Go.Proofs.Ytmhbphmdfnlmkaa
