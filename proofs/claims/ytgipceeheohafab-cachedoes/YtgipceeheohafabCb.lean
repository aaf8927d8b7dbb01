/-
  Layer 4 as plain functions, and its plain laws. No Go in here.
-/
import Derived.Test.YtgipceeheohafabCa
namespace Go.Proofs.Ytgipceeheohafab
namespace Img
/-- a Write of each block, from the last one to the first one: those below b -/
def down (now disk : Img) : Nat → Img
  | 0 => disk
  | b + 1 => down now (write now disk (b : Int)) b
/-- as long as it is not clean, f times at most: how often, and what lies there then -/
def syn (now : Img) : Nat → Img → Nat × Img
  | 0, disk => (0, disk)
  | f + 1, disk => if sameImg now disk = true then (0, disk) else ((syn now f (down now disk 14)).1 + 1, (syn now f (down now disk 14)).2)
theorem syn_le (now : Img) : ∀ f disk, (syn now f disk).1 ≤ f
  | 0, _ => Nat.le_refl _
  | f + 1, disk => by
    unfold syn
    split
    · exact Nat.zero_le _
    · have := syn_le now f (down now disk 14); simp; omega
theorem syn_clean (now : Img) : ∀ f disk, (syn now f disk).1 = f ∨ sameImg now (syn now f disk).2 = true
  | 0, _ => .inl rfl
  | f + 1, disk => by
    unfold syn
    split
    · rename_i h; exact .inr h
    · rcases syn_clean now f (down now disk 14) with h | h
      · exact .inl (by simp [h])
      · exact .inr h
theorem syn_step {now disk : Img} {f : Nat} (h : sameImg now disk = false) : syn now (f + 1) disk = ((syn now f (down now disk 14)).1 + 1, (syn now f (down now disk 14)).2) := by
  show (if sameImg now disk = true then _ else _) = _
  rw [if_neg (by rw [h]; simp)]
theorem syn_stop {now disk : Img} {f : Nat} (h : sameImg now disk = true) : syn now f disk = (0, disk) := by
  cases f
  · rfl
  · show (if sameImg now disk = true then _ else _) = _
    rw [if_pos h]
def freeIno (now disk : Img) : Int := firstI (fun n => !now.live n && (disk.refs (n : Int) == 0)) 8
def freeSlot (now disk : Img) (d : Int) : Int := if 0 ≤ d ∧ d < 3 then firstI (fun s => !now.named d.toNat s && !disk.named d.toNat s) 4 else -1
def freeData (now disk : Img) : Int := firstI (fun x => !now.holds (x : Int) && !disk.holds (x : Int)) 9
def dirty (now disk : Img) (b : Int) : Bool :=
  if inB b = false then false
  else if b < 2 then !(List.range 4).all fun j => sameIno now disk (b.toNat * 4 + j)
  else if b < 5 then !sameDir now disk (b.toNat - 2)
  else !sameDat now disk (b.toNat - 5)
theorem dirty_out {now disk : Img} {b : Int} (h : inB b = false) : dirty now disk b = false := if_pos h
theorem dirty_ino {now disk : Img} {k : Nat} (h : k < 2) : dirty now disk (k : Int) = !(List.range 4).all fun j => sameIno now disk (k * 4 + j) := by
  have e : inB (k : Int) = true := by simp [inB]; omega
  unfold dirty
  rw [e, if_neg (by simp), if_pos (by omega), Int.toNat_natCast]
theorem dirty_dir {now disk : Img} {d : Nat} (h : d < 3) : dirty now disk ((d + 2 : Nat) : Int) = !sameDir now disk d := by
  have e : inB ((d + 2 : Nat) : Int) = true := by simp [inB]; omega
  unfold dirty
  rw [e, if_neg (by simp), if_neg (by omega), if_pos (by omega), Int.toNat_natCast]; rfl
theorem dirty_data {now disk : Img} {x : Nat} (h : x < 9) : dirty now disk ((x + 5 : Nat) : Int) = !sameDat now disk x := by
  have e : inB ((x + 5 : Nat) : Int) = true := by simp [inB]; omega
  unfold dirty
  rw [e, if_neg (by simp), if_neg (by omega), if_neg (by omega), Int.toNat_natCast]; rfl
/-- all lies as it is to just if no block is dirty -/
theorem dirty_any (now disk : Img) : anyB (fun b => dirty now disk (b : Int)) 14 = !sameImg now disk := by
  cases h : sameImg now disk
  · cases e : anyB (fun b => dirty now disk (b : Int)) 14
    · exfalso
      rw [anyB_false] at e
      have : sameImg now disk = true := by
        unfold sameImg
        simp only [Bool.and_eq_true, List.all_eq_true, List.mem_range]
        refine ⟨⟨fun n hn => ?_, fun d hd => ?_⟩, fun x hx => ?_⟩
        · have h1 := e (n / 4) (by omega)
          rw [dirty_ino (by omega)] at h1
          simp only [Bool.not_eq_false', List.all_eq_true, List.mem_range] at h1
          have := h1 (n % 4) (by omega)
          rwa [show n / 4 * 4 + n % 4 = n by omega] at this
        · have h1 := e (d + 2) (by omega)
          rw [dirty_dir hd] at h1
          simpa using h1
        · have h1 := e (x + 5) (by omega)
          rw [dirty_data hx] at h1
          simpa using h1
      rw [this] at h; cases h
    · rfl
  · rw [Bool.not_true, anyB_false]
    intro b hb
    unfold sameImg at h
    simp only [Bool.and_eq_true, List.all_eq_true, List.mem_range] at h
    obtain ⟨⟨h1, h2⟩, h3⟩ := h
    rcases blocks (b : Int) with z | ⟨k, hk, z⟩ | ⟨d, hd, z⟩ | ⟨x, hx, z⟩
    · exact dirty_out z
    · rw [z, dirty_ino hk]
      simp only [Bool.not_eq_false', List.all_eq_true, List.mem_range]
      exact fun j hj => h1 _ (by omega)
    · rw [z, dirty_dir hd, h2 d hd]; rfl
    · rw [z, dirty_data hx, h3 x hx]; rfl
/-- a data that was written is not dirty any more -/
theorem dirty_written (now disk : Img) {x : Nat} (hx : x < 9) : dirty now (write now disk ((x + 5 : Nat) : Int)) ((x + 5 : Nat) : Int) = false := by
  rw [dirty_data hx, write_data hx]
  simp [sameDat, putData]
/-! what first answers -/
theorem first_free {p : Nat → Bool} {n : Nat} : -1 ≤ firstI p n ∧ firstI p n < n ∧ ∀ k : Nat, k < n → ((k : Int) = firstI p n → p k = true) ∧ (p k = true → 0 ≤ firstI p n ∧ firstI p n ≤ k) := by
  rcases firstI_cases p n with ⟨h1, h2⟩ | ⟨j, hj, h1, h2, h3⟩
  · refine ⟨by omega, by omega, fun k hk => ⟨fun e => by omega, fun e => ?_⟩⟩
    rw [h2 k hk] at e; cases e
  · refine ⟨by omega, by omega, fun k hk => ⟨fun e => ?_, fun e => ⟨by omega, ?_⟩⟩⟩
    · have : k = j := by omega
      rw [this]; exact h2
    · by_cases hkj : k < j
      · rw [h3 k hkj] at e; cases e
      · omega
end Img
end Go.Proofs.Ytgipceeheohafab
