/-
  The walk of (*eiderdownref.Ideal).Read.
-/
import Derived.Test.YtmhbphmdfnlmkaaJd
import Derived.RegionTactic
import Derived.BigRegion
namespace Go.Proofs.Ytmhbphmdfnlmkaa
open Go.RowKit
namespace Idl
theorem IRd.below {w w' : World} {b : Nat} {S : St} {l : List Tg} {ta fa : Option Addr} {tc fc : Nat} (h : IRd w b S l ta fa tc fc) (hb : Below w.heap.size w w') : IRd w' b S l ta fa tc fc := by
  have key : ∀ g o, g < w.heap.size → w'.cell? ⟨g, o, none⟩ = w.cell? ⟨g, o, none⟩ := fun g o hg => hb.cell (p := ⟨g, o, none⟩) hg
  refine ⟨Nat.lt_of_lt_of_le h.lt hb.size, by rw [key _ _ h.lt]; exact h.tv, by rw [key _ _ h.lt]; exact h.fv, h.few, h.many, fun i hi => ?_, fun i hi => ?_⟩
  · obtain ⟨g, o, e, hg, c0, c1, c2⟩ := h.tags i hi
    exact ⟨g, o, e, Nat.lt_of_lt_of_le hg hb.size, by rw [key _ _ hg]; exact c0, by rw [key _ _ hg]; exact c1, by rw [key _ _ hg]; exact c2⟩
  · obtain ⟨g, o, e, hg, c0, c1⟩ := h.files i hi
    exact ⟨g, o, e, Nat.lt_of_lt_of_le hg hb.size, fun p hp => by rw [key _ _ hg]; exact c0 p hp, fun p hp => by rw [key _ _ hg]; exact c1 p hp⟩
/-- what Read answers -/
def readIs (S : St) (d : Int) (s : ByteArray) (p : Int) (e : Ending) : Prop := e = .returned (.tuple #[.string (rdT S d s p), .bool (rdB S d s p), .int .i64 (code S (cut d s p))])
set_option maxRecDepth 100000 in
set_option maxHeartbeats 4000000 in
theorem rRead_any {b : Nat} {S : St} {l : List Tg} {ta fa : Option Addr} {tc fc : Nat} (hT : Tags S l) (hI : Inv S) (d : Int) (s : ByteArray) (hs : s.size ≤ maxLen) (p : Int) (w : World) (h : IRd w b S l ta fa tc fc) :
    Calls Try.prog 33 #[.pointer (some ⟨b, 0, none⟩), .int .i64 d, .string s, .int .i64 p] w fun e w' => readIs S d s p e ∧ Below w.heap.size w w' := by
  have C1 := hide (stepFault_any (cut d s p) hs (Nat.zero_le _) (Nat.zero_le _) w)
  have H := hide h
  clear h
  have hck0 : stpA (cut d s p) = #[.int .i64 6, .int .i64 d, .int .i64 0, .int .i64 p, .string s, .string ⟨#[]⟩, .string ⟨#[]⟩] := rfl
  rw [hck0] at C1
  clear hck0
  by_cases hc : chk (cut d s p) = 0
  · rw [hc] at C1
    have hpp := (chk_zero hc).2.2.2.2.1 (.inr rfl)
    have hp0 : 0 ≤ p := hpp.1
    have hp2 : p < 2 := hpp.2
    rcases atI_lookS hT d s with ⟨a1, a2⟩ | ⟨i, hi, _, a1, a2⟩
    · have e2 : lookS S (cut d s p).dir (cut d s p).name = none := a2
      have hcode : code S (cut d s p) = 5 := by
        unfold code
        rw [if_neg (by omega), e2]
        rfl
      have E := hide (show rdT S d s p = none0 ∧ rdB S d s p = false ∧ code S (cut d s p) = 5 from ⟨by unfold rdT; rw [if_pos (by omega)], by unfold rdB; rw [if_pos (by omega)], hcode⟩)
      unfold readIs
      rw [(unhide E).1, (unhide E).2.1, (unhide E).2.2]
      clear E hcode hc a2 e2 hpp hp0 hp2
      go_enter Try.func33, Try.ntmps33
      go_wp2_with fail
      refine (unhide C1).mono ?_
      rintro e w1 ⟨rfl, hb1⟩
      have C2 := hide (rAt_any d s w1 ((unhide H).below hb1))
      rw [a1] at C2
      clear a1
      go_wp2_with fail
      refine (unhide C2).mono ?_
      rintro e w2 ⟨rfl, q, rfl⟩
      go_wp2_with fail
      go_ret3
      exact ⟨rfl, belowN hb1⟩
    · have e2 : lookS S (cut d s p).dir (cut d s p).name = some l[i].file := a2
      have hcode : code S (cut d s p) = 0 := by
        unfold code
        rw [if_neg (by omega), e2]
        rfl
      have hthe : the S (cut d s p) = l[i].file := by unfold the; rw [e2]; rfl
      have hnx : l[i].file < S.next := by
        have hd : isD d = true := by
          cases e : isD d
          · unfold lookS at a2; rw [e] at a2; cases a2
          · rfl
        rw [lookS_in hd] at a2
        exact old_lt hI a2
      have E := hide (show rdT S d s p = S.txt l[i].file p.toNat ∧ rdB S d s p = S.has l[i].file p.toNat ∧ code S (cut d s p) = 0 from ⟨by unfold rdT; rw [if_neg (by omega), hthe], by unfold rdB; rw [if_neg (by omega), hthe], hcode⟩)
      unfold readIs
      rw [(unhide E).1, (unhide E).2.1, (unhide E).2.2]
      obtain ⟨pp, rfl⟩ := Int.eq_ofNat_of_zero_le hp0
      have hpn : pp < 2 := by omega
      rw [Int.toNat_natCast]
      obtain ⟨fn, hfn⟩ : ∃ fn, fn = l[i].file := ⟨_, rfl⟩
      rw [← hfn] at hnx ⊢
      clear E hcode hc a2 e2 hthe hpp hp0
      have hp01 : pp = 0 ∨ pp = 1 := by omega
      clear hpn hp2
      rcases hp01 with rfl | rfl
      all_goals
       go_enter Try.func33, Try.ntmps33
       go_wp2_with fail
       refine (unhide C1).mono ?_
       rintro e w1 ⟨rfl, hb1⟩
       have H1 := hide ((unhide H).below hb1)
       have C2 := hide (rAt_any d s w1 (unhide H1))
       rw [a1] at C2
       clear a1
       go_wp2_with fail
       refine (unhide C2).mono ?_
       rintro e w2 ⟨rfl, q, rfl⟩
       have H2 := hide ((unhide H1).draw q)
       have hb2 : Below w.heap.size w (w1.drewN q) := belowN hb1
       generalize w1.drewN q = W at H2 hb2 ⊢
       have tv := (unhide H2).tv
       have fv := (unhide H2).fv
       have few := (unhide H2).few
       have many := (unhide H2).many
       have lt := (unhide H2).lt
       obtain ⟨g, o, rfl, hg, _, _, c2⟩ := (unhide H2).tags i hi
       obtain ⟨gf, og, rfl, hgf, f1, f2⟩ := (unhide H2).files fn hnx
       rw [← hfn] at c2
       obtain ⟨n, hn⟩ : ∃ n, n = l.length := ⟨_, rfl⟩
       obtain ⟨nf, hnf⟩ : ∃ nf, nf = S.next := ⟨_, rfl⟩
       have f10 : W.cell? ⟨gf, og + fn * 4, none⟩ = some (.bool (S.has fn 0)) := f1 0 (by omega)
       have f11 : W.cell? ⟨gf, og + fn * 4 + 1, none⟩ = some (.bool (S.has fn 1)) := f1 1 (by omega)
       have f20 : W.cell? ⟨gf, og + fn * 4 + 2, none⟩ = some (.string (S.txt fn 0)) := f2 0 (by omega)
       have f21 : W.cell? ⟨gf, og + fn * 4 + 3, none⟩ = some (.string (S.txt fn 1)) := f2 1 (by omega)
       rw [← hn] at tv few hi
       rw [← hnf] at fv many hnx
       have iz : (i : Int) < (n : Int) := by omega
       have fz : (fn : Int) < (nf : Int) := by omega
       have hsz := hb2.size
       clear hn hnf hfn f1 f2 C1 C2 H H1 H2 hb1
       have u1 : decide ((i : Int) < 0) = false := by simp
       go_wp2_with fail
       go_region
       all_goals
         go_wp2_with fail
         try (go_quiet (fail); go_wp2_with fail)
         go_ret3
         exact ⟨rfl, by first | exact (hb2.alloc hsz _).drew | exact belowN (hb2.alloc hsz _).drew⟩
  · have hcode : code S (cut d s p) = chk (cut d s p) := by unfold code; rw [if_pos hc]
    have E := hide (show rdT S d s p = none0 ∧ rdB S d s p = false ∧ code S (cut d s p) = chk (cut d s p) from ⟨by unfold rdT; rw [if_pos (by omega)], by unfold rdB; rw [if_pos (by omega)], hcode⟩)
    unfold readIs
    rw [(unhide E).1, (unhide E).2.1, (unhide E).2.2]
    clear E hcode
    generalize chk (cut d s p) = ck at C1 hc
    have u1 : (ck != 0) = true := by simpa using hc
    go_enter Try.func33, Try.ntmps33
    go_wp2_with fail
    refine (unhide C1).mono ?_
    rintro e w1 ⟨rfl, hb1⟩
    go_wp2_with fail
    go_ret3
    exact ⟨rfl, hb1⟩
end Idl
end Go.Proofs.Ytmhbphmdfnlmkaa
