/-
  A world without a disk, as plain data: what each step does, and what stays so. No Go in here.
-/
import Derived.Test.YtmbpckmpnnmnmabGreatIa
import Derived.Test.YtmbpckmpnnmnmabGreatYu
namespace Go.Proofs.YtmbpckmpnnmnmabGreat
namespace Idl
structure Stp where
  kind : Int
  dir : Int
  toDir : Int
  p : Int
  name : ByteArray
  to : ByteArray
  text : ByteArray
structure St where
  dir : Nat → List Ent
  has : Nat → Nat → Bool
  txt : Nat → Nat → ByteArray
  next : Nat
def none0 : ByteArray := ⟨#[]⟩
def isD (d : Int) : Bool := decide (0 ≤ d) && decide (d < 3)
def spot (d : Int) (s : ByteArray) : Int := if isD d = false then 1 else if Img.isNmB s.toList = false then 2 else 0
def chk (x : Stp) : Int :=
  if x.kind < 1 ∨ 6 < x.kind then 7 else
  if spot x.dir x.name ≠ 0 then spot x.dir x.name else
  if x.kind = 2 ∨ x.kind = 4 then spot x.toDir x.to else
  if (x.kind = 5 ∨ x.kind = 6) ∧ (x.p < 0 ∨ 2 ≤ x.p) then 1 else
  if x.kind = 5 ∧ 8 < x.text.size then 3 else 0
def cut (d : Int) (s : ByteArray) (p : Int) : Stp := ⟨6, d, 0, p, s, none0, none0⟩
def St.empty : St := ⟨fun _ => [], fun _ _ => false, fun _ _ => none0, 0⟩
theorem spot_zero {d : Int} {s : ByteArray} (h : spot d s = 0) : isD d = true ∧ Img.isNmB s.toList = true := by
  unfold spot at h
  split at h
  · omega
  · split at h
    · omega
    · rename_i h1 h2
      exact ⟨by simpa using h1, by simpa using h2⟩
theorem isD_iff {d : Int} : isD d = true ↔ 0 ≤ d ∧ d < 3 := by simp [isD]
theorem chk_zero {x : Stp} (h : chk x = 0) : 1 ≤ x.kind ∧ x.kind ≤ 6 ∧ spot x.dir x.name = 0 ∧ (x.kind = 2 ∨ x.kind = 4 → spot x.toDir x.to = 0) ∧ (x.kind = 5 ∨ x.kind = 6 → 0 ≤ x.p ∧ x.p < 2) ∧ (x.kind = 5 → x.text.size ≤ 8) := by
  unfold chk at h
  split at h
  · omega
  · split at h
    · contradiction
    · split at h
      · refine ⟨by omega, by omega, by omega, fun _ => h, fun h5 => by omega, fun h5 => by omega⟩
      · split at h
        · omega
        · split at h
          · omega
          · refine ⟨by omega, by omega, by omega, fun h2 => by omega, fun h5 => by omega, fun h5 => by omega⟩
end Idl
end Go.Proofs.YtmbpckmpnnmnmabGreat
