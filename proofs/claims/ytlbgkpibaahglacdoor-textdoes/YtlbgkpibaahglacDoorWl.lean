/-
  An image read off its cells; the two images of eiderdownlaw.imageBegun.
-/
import Derived.Test.YtlbgkpibaahglacDoorWk
namespace Go.Proofs.YtlbgkpibaahglacDoor
open Go.RowKit
def bOf : Value → Bool | .bool b => b | _ => false
def sOf : Value → ByteArray | .string s => s | _ => ⟨#[]⟩
def imgOf (cs : Array Value) : Img where
  live n := bOf (cs.getD (n * 5) undef)
  stamp n := intOf (cs.getD (n * 5 + 1) undef)
  links n := intOf (cs.getD (n * 5 + 2) undef)
  part n p := intOf (cs.getD (n * 5 + 3 + p) undef)
  name d s := sOf (cs.getD (40 + d * 12 + s * 3) undef)
  ino d s := intOf (cs.getD (40 + d * 12 + s * 3 + 1) undef)
  est d s := intOf (cs.getD (40 + d * 12 + s * 3 + 2) undef)
  of x := intOf (cs.getD (76 + x * 2) undef)
  text x := sOf (cs.getD (76 + x * 2 + 1) undef)
def isB : Value → Bool | .bool _ => true | _ => false
def isN : Value → Bool | .int .i64 _ => true | _ => false
def isS : Value → Bool | .string _ => true | _ => false
def kindOk (i : Nat) (v : Value) : Bool :=
  if i < 40 then (if i % 5 = 0 then isB v else isN v) else if i < 76 then (if (i - 40) % 3 = 0 then isS v else isN v) else (if (i - 76) % 2 = 0 then isN v else isS v)
theorem of_isB {v : Value} (h : isB v = true) : v = .bool (bOf v) := by cases v <;> first | rfl | cases h
theorem of_isN {v : Value} (h : isN v = true) : v = .int .i64 (intOf v) := by
  cases v <;> first | cases h | skip
  rename_i k n
  cases k <;> first | rfl | cases h
theorem of_isS {v : Value} (h : isS v = true) : v = .string (sOf v) := by cases v <;> first | rfl | cases h
structure Kinds (cs : Array Value) : Prop where
  size : cs.size = 94
  kind : ∀ i, i < 94 → kindOk i (cs.getD i undef) = true
  short : ∀ i, (sOf (cs.getD i undef)).size ≤ maxLen
theorem Kinds.get {cs : Array Value} (h : Kinds cs) {i : Nat} (hi : i < 94) : cs[i]? = some (cs.getD i undef) := by
  have : i < cs.size := by rw [h.size]; exact hi
  simp [Array.getD, this]
theorem Kinds.isImg {cs : Array Value} (h : Kinds cs) : IsImg cs (imgOf cs) := by
  refine ⟨h.size, ?_, ?_, ?_, ?_, ?_, ?_, ?_, ?_, ?_, fun d s => h.short _, fun x => h.short _⟩
  · intro n hn
    have k := h.kind (n * 5) (by omega)
    rw [kindOk, if_pos (by omega), if_pos (by omega)] at k
    rw [h.get (by omega), of_isB k]; rfl
  · intro n hn
    have k := h.kind (n * 5 + 1) (by omega)
    rw [kindOk, if_pos (by omega), if_neg (by omega)] at k
    rw [h.get (by omega), of_isN k]; rfl
  · intro n hn
    have k := h.kind (n * 5 + 2) (by omega)
    rw [kindOk, if_pos (by omega), if_neg (by omega)] at k
    rw [h.get (by omega), of_isN k]; rfl
  · intro n p hn hp
    have k := h.kind (n * 5 + 3 + p) (by omega)
    rw [kindOk, if_pos (by omega), if_neg (by omega)] at k
    rw [h.get (by omega), of_isN k]; rfl
  · intro d s hd hs
    have k := h.kind (40 + d * 12 + s * 3) (by omega)
    rw [kindOk, if_neg (by omega), if_pos (by omega), if_pos (by omega)] at k
    rw [h.get (by omega), of_isS k]; rfl
  · intro d s hd hs
    have k := h.kind (40 + d * 12 + s * 3 + 1) (by omega)
    rw [kindOk, if_neg (by omega), if_pos (by omega), if_neg (by omega)] at k
    rw [h.get (by omega), of_isN k]; rfl
  · intro d s hd hs
    have k := h.kind (40 + d * 12 + s * 3 + 2) (by omega)
    rw [kindOk, if_neg (by omega), if_pos (by omega), if_neg (by omega)] at k
    rw [h.get (by omega), of_isN k]; rfl
  · intro x hx
    have k := h.kind (76 + x * 2) (by omega)
    rw [kindOk, if_neg (by omega), if_neg (by omega), if_pos (by omega)] at k
    rw [h.get (by omega), of_isN k]; rfl
  · intro x hx
    have k := h.kind (76 + x * 2 + 1) (by omega)
    rw [kindOk, if_neg (by omega), if_neg (by omega), if_neg (by omega)] at k
    rw [h.get (by omega), of_isS k]; rfl
def kindsB (cs : Array Value) : Bool := (List.range 94).all fun i => kindOk i (cs.getD i undef) && decide ((sOf (cs.getD i undef)).size ≤ 1000)
theorem Kinds.of {cs : Array Value} (hs : cs.size = 94) (h : kindsB cs = true) : Kinds cs := by
  have h' := List.all_eq_true.1 h
  refine ⟨hs, fun i hi => ?_, fun i => ?_⟩
  · have := h' i (List.mem_range.2 hi)
    rw [Bool.and_eq_true] at this
    exact this.1
  · by_cases hi : i < 94
    · have := h' i (List.mem_range.2 hi)
      rw [Bool.and_eq_true, decide_eq_true_eq] at this
      have := this.2
      unfold maxLen; omega
    · have : cs.getD i undef = undef := by simp [Array.getD, hs, hi]
      rw [this]; show (0 : Nat) ≤ maxLen; exact Nat.zero_le _
def lessCells : Array Value := oneCells.setIfInBounds 12 (.int .i64 0)
theorem one_kinds : Kinds oneCells := .of size_one (by kernel_rfl)
theorem size_less : lessCells.size = 94 := by kernel_rfl
theorem less_kinds : Kinds lessCells := .of size_less (by kernel_rfl)
theorem one_check : (imgOf oneCells).check = 0 := by kernel_rfl
theorem one_exact : (imgOf oneCells).exact = true := by kernel_rfl
theorem less_check : (imgOf lessCells).check = 9 := by kernel_rfl
theorem one_refs : (imgOf oneCells).refs 2 = 1 := by kernel_rfl
theorem one_holds : (imgOf oneCells).holds 3 = true := by kernel_rfl
theorem one_find : (imgOf oneCells).findAt 1 (⟨#[97]⟩ : ByteArray).toList = 2 := by kernel_rfl
theorem abc_name : Img.isNmB (⟨#[97, 98, 99, 100, 101, 102]⟩ : ByteArray).toList = true := by kernel_rfl
theorem abc_size : (⟨#[97, 98, 99, 100, 101, 102]⟩ : ByteArray).size ≤ maxLen := by unfold maxLen; show 6 ≤ _; omega
end Go.Proofs.YtlbgkpibaahglacDoor
