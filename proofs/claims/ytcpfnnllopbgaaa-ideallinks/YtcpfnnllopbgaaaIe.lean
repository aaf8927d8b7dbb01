/-
  All names of a file are one file. No Go in here.
-/
import Derived.Test.YtcpfnnllopbgaaaId
namespace Go.Proofs.Ytcpfnnllopbgaaa
namespace Idl
theorem same_comm (S : St) (d : Int) (s : ByteArray) (e : Int) (t : ByteArray) : same S d s e t = same S e t d s := by
  unfold same
  cases lookS S d s <;> cases lookS S e t <;> simp [Bool.beq_comm]
theorem same_self {S : St} {d : Nat} (hd : d < 3) {s : ByteArray} {n : Nat} (hl : look (S.dir d) s = some n) : same S d s d s = true := by
  have hD : isD (d : Int) = true := by simp [isD]; omega
  simp [same, lookS, hD, hl]
/-- names that lead to the same file read the same parts -/
theorem same_read {S : St} {d e : Nat} (hd : d < 3) (he : e < 3) {s t : ByteArray} {n m : Nat} (hs : Img.isNmB s.toList = true) (ht : Img.isNmB t.toList = true) (h1 : look (S.dir d) s = some n) (h2 : look (S.dir e) t = some m)
    (h : same S d s e t = true) {p : Nat} (hp : p < 2) : rdT S d s p = rdT S e t p ∧ rdB S d s p = rdB S e t p := by
  obtain ⟨_, a2, a3⟩ := cut_code hd hs h1 hp
  obtain ⟨_, b2, b3⟩ := cut_code he ht h2 hp
  have hD : isD (d : Int) = true := by simp [isD]; omega
  have hE : isD (e : Int) = true := by simp [isD]; omega
  have : n = m := by simpa [same, lookS, hD, hE, h1, h2] using h
  subst this
  exact ⟨by rw [a2, b2], by rw [a3, b3]⟩
def putS (d : Int) (s : ByteArray) (p : Int) (t : ByteArray) : Stp := ⟨5, d, 0, p, s, none0, t⟩
theorem put_ok {S : St} {d : Nat} (hd : d < 3) {s : ByteArray} {n : Nat} (hs : Img.isNmB s.toList = true) (h1 : look (S.dir d) s = some n) {p : Nat} (hp : p < 2) {t : ByteArray} (ht : t.size ≤ 8) :
    code S (putS d s p t) = 0 ∧ step S (putS d s p t) = S.put n p true t := by
  have hD : isD (d : Int) = true := by simp [isD]; omega
  have hck : chk (putS d s p t) = 0 := by
    simp [chk, putS, spot_ok hD hs]; omega
  have hc : code S (putS d s p t) = 0 := by
    simp [code, hck]
    simp [putS, lookS, hD, h1]
  have hth : the S (putS d s p t) = n := by simp [the, putS, lookS, hD, h1]
  refine ⟨hc, ?_⟩
  rcases step_cases hc with ⟨k, e⟩ | ⟨k, e⟩ | ⟨k, e⟩ | ⟨k, e⟩ | ⟨k, e⟩ | ⟨k, e⟩
  · simp [putS] at k
  · simp [putS] at k
  · simp [putS] at k
  · simp [putS] at k
  · rw [e, hth]; simp [putS]
  · simp [putS] at k
/-- what is put by one name is read by all -/
theorem put_read {S : St} {d e : Nat} (hd : d < 3) (he : e < 3) {s u : ByteArray} {n m : Nat} (hu : Img.isNmB u.toList = true) (h1 : look (S.dir d) s = some n) (h2 : look (S.dir e) u = some m) {p : Nat} (hp : p < 2) {t : ByteArray} :
    code (S.put n p true t) (cut e u p) = 0 ∧ (same (S.put n p true t) d s e u = true → rdT (S.put n p true t) e u p = t ∧ rdB (S.put n p true t) e u p = true) := by
  obtain ⟨b1, b2, b3⟩ := cut_code (S := S.put n p true t) he hu h2 hp
  refine ⟨b1, fun h => ?_⟩
  have hD : isD (d : Int) = true := by simp [isD]; omega
  have hE : isD (e : Int) = true := by simp [isD]; omega
  have hd1 : look ((S.put n p true t).dir d) s = some n := h1
  have hd2 : look ((S.put n p true t).dir e) u = some m := h2
  have : n = m := by simpa [same, lookS, hD, hE, hd1, hd2] using h
  subst this
  rw [b2, b3]
  simp [St.put]
end Idl
end Go.Proofs.Ytcpfnnllopbgaaa
