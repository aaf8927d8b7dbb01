/-
  The walk of eiderdownlaw.textBegun.
-/
import Derived.Test.YtlbgkpibaahglacDoorKf
import Derived.Test.YtlbgkpibaahglacDoorWm
set_option linter.unusedVariables false
namespace Go.Proofs.YtlbgkpibaahglacDoor
open Go.RowKit
theorem Mean_yes (s : ByteArray) (l : List UInt8) (h : s.toList = Txt.shows l) (hs : s.size ≤ 1000000000) (w : World) :
    Calls Tryd.prog 7 #[.string s] w fun e w' => e = .returned (.tuple #[.string ⟨l.toArray⟩, .bool true]) ∧ Below w.heap.size w w' :=
  (Mean_any s hs w).mono fun e w' ⟨he, hb⟩ => ⟨by
    rcases he with ⟨k, hk, he⟩ | ⟨hn, _⟩
    · rw [he, Txt.shows_inj.1 (hk.symm.trans h)]
    · exact absurd h (hn l), hb⟩
theorem Mean_no (s : ByteArray) (h : ∀ l, s.toList ≠ Txt.shows l) (hs : s.size ≤ 1000000000) (w : World) :
    Calls Tryd.prog 7 #[.string s] w fun e w' => e = .returned (.tuple #[.string ⟨#[]⟩, .bool false]) ∧ Below w.heap.size w w' :=
  (Mean_any s hs w).mono fun e w' ⟨he, hb⟩ => ⟨by
    rcases he with ⟨k, hk, he⟩ | ⟨_, he⟩
    · exact absurd hk (h k)
    · exact he, hb⟩
theorem itoa_s {n : Nat} (h : n < 10) : Lib.itoa (n : Int) = [UInt8.ofNat (48 + n)] := by
  unfold Lib.itoa
  rw [if_neg (by omega), Int.toNat_natCast, Lib.decDigits_one h]
theorem itoa_m : Lib.itoa (-1) = [45, 49] := by
  unfold Lib.itoa
  rw [if_pos (by omega), show (-1 : Int).natAbs = 1 from rfl, Lib.decDigits_one (by omega)]
  rfl
theorem one_lines : Txt.lines (imgOf oneCells) = [Txt.inoW (imgOf oneCells) 2, Txt.entW (imgOf oneCells) 1 2, Txt.datW (imgOf oneCells) 3] := by
  have hi : Txt.linesI (imgOf oneCells) 8 = [Txt.inoW (imgOf oneCells) 2] := by
    unfold Txt.linesI Txt.inoL
    simp only [Txt.upto]
    rw [show (imgOf oneCells).live 0 = false from by kernel_rfl, show (imgOf oneCells).live 1 = false from by kernel_rfl, show (imgOf oneCells).live 2 = true from by kernel_rfl, show (imgOf oneCells).live 3 = false from by kernel_rfl, show (imgOf oneCells).live 4 = false from by kernel_rfl, show (imgOf oneCells).live 5 = false from by kernel_rfl, show (imgOf oneCells).live 6 = false from by kernel_rfl, show (imgOf oneCells).live 7 = false from by kernel_rfl]
    rfl
  have hd : Txt.upto (Txt.dirL (imgOf oneCells)) 3 = [Txt.entW (imgOf oneCells) 1 2] := by
    unfold Txt.dirL Txt.entL
    simp only [Txt.upto]
    rw [show (imgOf oneCells).named 0 0 = false from by kernel_rfl, show (imgOf oneCells).named 0 1 = false from by kernel_rfl, show (imgOf oneCells).named 0 2 = false from by kernel_rfl, show (imgOf oneCells).named 0 3 = false from by kernel_rfl, show (imgOf oneCells).named 1 0 = false from by kernel_rfl, show (imgOf oneCells).named 1 1 = false from by kernel_rfl, show (imgOf oneCells).named 1 2 = true from by kernel_rfl, show (imgOf oneCells).named 1 3 = false from by kernel_rfl, show (imgOf oneCells).named 2 0 = false from by kernel_rfl, show (imgOf oneCells).named 2 1 = false from by kernel_rfl, show (imgOf oneCells).named 2 2 = false from by kernel_rfl, show (imgOf oneCells).named 2 3 = false from by kernel_rfl]
    rfl
  have hx : Txt.upto (Txt.datL (imgOf oneCells)) 9 = [Txt.datW (imgOf oneCells) 3] := by
    unfold Txt.datL
    simp only [Txt.upto]
    rw [show (imgOf oneCells).of 0 = 0 from by kernel_rfl, show (imgOf oneCells).of 1 = 0 from by kernel_rfl, show (imgOf oneCells).of 2 = 0 from by kernel_rfl, show (imgOf oneCells).of 3 = 5 from by kernel_rfl, show (imgOf oneCells).of 4 = 0 from by kernel_rfl, show (imgOf oneCells).of 5 = 0 from by kernel_rfl, show (imgOf oneCells).of 6 = 0 from by kernel_rfl, show (imgOf oneCells).of 7 = 0 from by kernel_rfl, show (imgOf oneCells).of 8 = 0 from by kernel_rfl]
    rfl
  unfold Txt.lines Txt.linesX Txt.linesD
  rw [hi, hd, hx]
  rfl
theorem one_printed : Txt.printed (imgOf oneCells) = [105, 110, 111, 100, 101, 32, 50, 32, 53, 32, 49, 32, 45, 49, 32, 51, 10, 101, 110, 116, 114, 121, 32, 49, 32, 50, 32, 97, 32, 50, 32, 53, 10, 100, 97, 116, 97, 32, 51, 32, 53, 32, 61, 120, 10] := by
  unfold Txt.printed
  rw [one_lines]
  unfold Txt.inoW Txt.entW Txt.datW
  rw [show (imgOf oneCells).stamp 2 = ((5 : Nat) : Int) from by kernel_rfl, show (imgOf oneCells).links 2 = ((1 : Nat) : Int) from by kernel_rfl, show (imgOf oneCells).part 2 0 = -1 from by kernel_rfl, show (imgOf oneCells).part 2 1 = ((3 : Nat) : Int) from by kernel_rfl, show (imgOf oneCells).ino 1 2 = ((2 : Nat) : Int) from by kernel_rfl, show (imgOf oneCells).est 1 2 = ((5 : Nat) : Int) from by kernel_rfl, show (imgOf oneCells).of 3 = ((5 : Nat) : Int) from by kernel_rfl, show (imgOf oneCells).name 1 2 = ⟨#[97]⟩ from by kernel_rfl, show (imgOf oneCells).text 3 = ⟨#[120]⟩ from by kernel_rfl]
  rw [itoa_s (n := 2) (by omega), itoa_s (n := 5) (by omega), itoa_s (n := 1) (by omega), itoa_m, itoa_s (n := 3) (by omega), show (⟨#[97]⟩ : ByteArray).toList = [97] from Lib_mk [97], show (⟨#[120]⟩ : ByteArray).toList = [120] from Lib_mk [120]]
  decide +kernel
def i64b (z : Int) : Bool := decide (-9223372036854775808 ≤ z) && decide (z ≤ 9223372036854775807)
theorem i64_of {z : Int} (h : i64b z = true) : I64 z := by
  simp only [i64b, Bool.and_eq_true, decide_eq_true_eq] at h
  exact h
/-- a cell that is a number of 64 bits, or none, and a text that is not too long -/
def fineV (k : Nat) (v : Value) : Bool := i64b (intOf v) && decide ((sOf v).size ≤ k)
theorem fine_of {cs : Array Value} (h : ∀ i, i < 94 → fineV 100000 (cs.getD i undef) = true) : Fine (imgOf cs) := by
  have key : ∀ i, i < 94 → I64 (intOf (cs.getD i undef)) ∧ (sOf (cs.getD i undef)).size ≤ 100000 := fun i hi => by
    have := h i hi
    simp only [fineV, Bool.and_eq_true, decide_eq_true_eq] at this
    exact ⟨i64_of this.1, this.2⟩
  exact ⟨fun n hn => (key (n * 5 + 1) (by omega)).1, fun n hn => (key (n * 5 + 2) (by omega)).1, fun n p hn hp => (key (n * 5 + 3 + p) (by omega)).1, fun d s hd hs => (key (40 + d * 12 + s * 3 + 1) (by omega)).1, fun d s hd hs => (key (40 + d * 12 + s * 3 + 2) (by omega)).1, fun x hx => (key (76 + x * 2) (by omega)).1, fun d s hd hs => (key (40 + d * 12 + s * 3) (by omega)).2, fun x hx => (key (76 + x * 2 + 1) (by omega)).2⟩
theorem one_fine : Fine (imgOf oneCells) := by
  refine fine_of fun i hi => ?_
  have h : (List.range 94).all (fun i => fineV 100000 (oneCells.getD i undef)) = true := by kernel_rfl
  exact List.all_eq_true.1 h i (List.mem_range.2 hi)
set_option maxHeartbeats 2000000 in
set_option maxRecDepth 100000 in
theorem textBegun_any (w : World) (ht : Tab w) :
    Calls Tryd.prog 5 #[] w fun e w' => e = .returned (.bool true) ∧ Below w.heap.size w w' := by
  have z := zero_img.1
  have hzo : zeroCells.size = oneCells.size := by rw [size_one]; exact size_newTo 0
  have Z := hide hzo
  have M1 := hide (fun V => Mean_yes ⟨#[61, 97, 92, 50, 48]⟩ [97, 32] (by rw [show (⟨#[61, 97, 92, 50, 48]⟩ : ByteArray).toList = [61, 97, 92, 50, 48] from Lib_mk [61, 97, 92, 50, 48]]; decide +kernel) (by decide) V)
  have M2 := hide (fun V => Mean_no ⟨#[97]⟩ (fun l e => by rw [show (⟨#[97]⟩ : ByteArray).toList = [97] from Lib_mk [97]] at e; exact absurd (List.cons.inj e).1 (by decide)) (by decide) V)
  have S1 := hide (fun V => Show_any ⟨#[97, 32]⟩ (by decide) V)
  have e1 : (⟨(Txt.shows (⟨#[97, 32]⟩ : ByteArray).toList).toArray⟩ : ByteArray) = ⟨#[61, 97, 92, 50, 48]⟩ := by
    rw [show (⟨#[97, 32]⟩ : ByteArray).toList = [97, 32] from Lib_mk [97, 32]]
    decide +kernel
  rw [e1] at S1
  have TB := hide ht
  have TL := hide (tab_lt ht)
  clear hzo e1 ht
  go_enter Tryd.func5, Tryd.ntmps5
  go_wp2_with fail
  refine (one_any _).mono ?_
  rintro e w1 ⟨rfl, hb1⟩
  have ST1 := hide (heap_alloc_last w1 (.cells zeroCells 34))
  go_upto_region 2 with (have hx := unhide ST1; refine wpList_store_row rfl 34 _ _ rfl w1.heap.size oneCells rfl rfl 34 zeroCells hx (img_info size_one) (unhide Z) one_all ?_; have HU := hide (Uno.start hb1 oneCells); clear hx ST1 hb1; generalize (w1.alloc (.cells zeroCells 34)).setRow w1.heap.size oneCells = W1 at HU ⊢; generalize w1.heap.size = g1 at HU ⊢)
  go_wp2_with fail
  refine (unhide M1 _).mono ?_
  rintro e w2 ⟨rfl, b2⟩
  have B2 := hide (show Below w.heap.size w w2 from (unhide HU).below.trans (b2.mono (unhide HU).below.size))
  have H2 := hide (show HasImg w2 g1 (imgOf oneCells) from (has_of_row (unhide HU).b one_kinds.isImg).below b2 (unhide HU).size)
  clear b2 HU M1
  go_wp2_with fail
  refine (unhide M2 _).mono ?_
  rintro e w3 ⟨rfl, b3⟩
  have B3 := hide (show Below w.heap.size w w3 from (unhide B2).trans (b3.mono (unhide B2).size))
  have H3 := hide ((unhide H2).below b3 (unhide H2).lt)
  clear b3 H2 B2 M2
  have P := hide (Print_any g1 (imgOf oneCells) w3 (unhide H3) one_fine (tab_block (unhide TB) ((unhide B3).block 1 (unhide TL))))
  rw [one_printed] at P
  go_wp2_with fail
  refine (unhide P).mono ?_
  rintro e w4 ⟨rfl, b4⟩
  have B4 := hide (show Below w.heap.size w w4 from (unhide B3).trans (b4.mono (unhide B3).size))
  clear b4 P H3 B3
  go_wp2_with fail
  refine (unhide S1 _).mono ?_
  rintro e w5 ⟨rfl, b5⟩
  have B5 := hide (show Below w.heap.size w w5 from (unhide B4).trans (b5.mono (unhide B4).size))
  clear b5 S1 B4
  go_wp2_with fail
  go_ret
  exact ⟨rfl, unhide B5⟩
end Go.Proofs.YtlbgkpibaahglacDoor
