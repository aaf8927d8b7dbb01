/-
  The walks of eiderdownlaw.deskBegun and slow; what the laws of layer 9 share. (Written by genqn.py.)
-/
import Derived.Test.YtfpfpnhpbnnmfadGreatDoorXbw
set_option linter.unusedVariables false
namespace Go.Proofs.YtfpfpnhpbnnmfadGreatDoor
open Go.RowKit
open Idl (Stp chk stpA strs)
namespace Dsk
def x1 : Stp := ⟨1, 0, 0, 0, ⟨#[97]⟩, ⟨#[]⟩, ⟨#[]⟩⟩
def x2 : Stp := ⟨5, 0, 0, 1, ⟨#[97]⟩, ⟨#[]⟩, ⟨#[120]⟩⟩
def x4 : Stp := ⟨7, 0, 0, 0, ⟨#[]⟩, ⟨#[]⟩, ⟨#[]⟩⟩
def x7 : Stp := ⟨8, 0, 0, 0, ⟨#[]⟩, ⟨#[]⟩, ⟨#[]⟩⟩
def x9 : Stp := ⟨2, 0, 2, 0, ⟨#[97]⟩, ⟨#[98]⟩, ⟨#[]⟩⟩
def x11 : Stp := ⟨9, 0, 0, 0, ⟨#[]⟩, ⟨#[]⟩, ⟨#[]⟩⟩
def T0 : Lv := Lv.new
def T1 : Lv := T0.step x1
def T2 : Lv := T1.step x2
def T4 : Lv := T2.step x4
def T7 : Lv := { T4 with disk := T4.now }
def T9 : Lv := T7.step x9
def T11 : Lv := T9.step x11
theorem o0 : T0.Ok 0 := Lv.Ok.start
theorem o1 : T1.Ok 1 := o0.any x1
theorem o2 : T2.Ok 2 := o1.any x2
theorem o4 : T4.Ok 3 := o2.any x4
theorem o7 : T7.Ok 3 := o4.clean
theorem o9 : T9.Ok 4 := o7.any x9
theorem o11 : T11.Ok 5 := o9.any x11
theorem n0 : T0.Neat := Lv.Neat.start
theorem n1 : T1.Neat := n0.any o0 (by omega) x1
theorem n2 : T2.Neat := n1.any o1 (by omega) x2
theorem n4 : T4.Neat := n2.any o2 (by omega) x4
theorem neat_clean {S : Lv} {n : Nat} (h : S.Neat) (hO : S.Ok n) : Lv.Neat { S with disk := S.now } := ⟨h.now, h.now, hO.hold.good.ex.lnk, h.lf, h.lc, h.ld⟩
theorem n7 : T7.Neat := neat_clean n4 o4
theorem n9 : T9.Neat := n7.any o7 (by omega) x9
theorem n11 : T11.Neat := n9.any o9 (by omega) x11
theorem Ok.more {S : Lv} {n m : Nat} (h : S.Ok n) (hm : n ≤ m) : S.Ok m := ⟨h.hold, by have := h.few; omega, h.cr0, by have := h.crn; omega⟩
def lb : List ByteArray := [⟨#[109, 97, 107, 101, 32, 48, 32, 97]⟩, ⟨#[112, 117, 116, 32, 48, 32, 97, 32, 49, 32, 61, 120]⟩, ⟨#[114, 101, 97, 100, 32, 48, 32, 97, 32, 49]⟩, ⟨#[119, 114, 105, 116, 101, 32, 48]⟩, ⟨#[100, 105, 115, 107]⟩, ⟨#[100, 105, 114, 116, 121]⟩, ⟨#[115, 121, 110, 99]⟩, ⟨#[115, 117, 114, 101, 32, 48, 32, 97]⟩, ⟨#[108, 105, 110, 107, 32, 48, 32, 97, 32, 50, 32, 98]⟩, ⟨#[115, 97, 109, 101, 32, 48, 32, 97, 32, 50, 32, 98]⟩, ⟨#[99, 114, 97, 115, 104]⟩, ⟨#[108, 105, 115, 116, 32, 50]⟩, ⟨#[108, 111, 115, 116]⟩, ⟨#[120]⟩]
def pb : Nat → Lv
  | 0 => T0
  | 1 => T1
  | 2 => T2
  | 3 => T2
  | 4 => T4
  | 5 => T4
  | 6 => T4
  | 7 => T7
  | 8 => T7
  | 9 => T9
  | 10 => T9
  | 11 => T11
  | 12 => T11
  | 13 => T11
  | _ => T11
theorem sync_next {S : Lv} {n : Nat} (h : S.Ok n) {w : World} {bl bf bc : Nat} {W : World} (hl : Lo w bl bf bc (S.step x7) W) : Lo w bl bf bc { S with disk := S.now } W := by
  rw [(S.step_eight (x := x7) rfl).1] at hl
  exact hl.clean (h.hold.lies.clean h.hold.good.ex)
theorem e0 : next T0 (words ⟨#[109, 97, 107, 101, 32, 48, 32, 97]⟩) = T0.step x1 := by kernel_rfl
theorem a0 : told T0 (words ⟨#[109, 97, 107, 101, 32, 48, 32, 97]⟩) = [111, 107, 10] := by kernel_rfl
theorem e1 : next T1 (words ⟨#[112, 117, 116, 32, 48, 32, 97, 32, 49, 32, 61, 120]⟩) = T1.step x2 := by kernel_rfl
theorem a1 : told T1 (words ⟨#[112, 117, 116, 32, 48, 32, 97, 32, 49, 32, 61, 120]⟩) = [111, 107, 10] := by kernel_rfl
theorem e2 : next T2 (words ⟨#[114, 101, 97, 100, 32, 48, 32, 97, 32, 49]⟩) = T2 := by kernel_rfl
theorem a2 : told T2 (words ⟨#[114, 101, 97, 100, 32, 48, 32, 97, 32, 49]⟩) = [61, 120, 10] := by kernel_rfl
theorem e3 : next T2 (words ⟨#[119, 114, 105, 116, 101, 32, 48]⟩) = T2.step x4 := by kernel_rfl
theorem a3 : told T2 (words ⟨#[119, 114, 105, 116, 101, 32, 48]⟩) = [111, 107, 10] := by kernel_rfl
theorem e4 : next T4 (words ⟨#[100, 105, 115, 107]⟩) = T4 := by kernel_rfl
theorem a4 : told T4 (words ⟨#[100, 105, 115, 107]⟩) = [105, 110, 111, 100, 101, 32, 48, 32, 49, 32, 49, 32, 45, 49, 32, 45, 49, 10, 101, 110, 100, 10] := by kernel_rfl
theorem e5 : next T4 (words ⟨#[100, 105, 114, 116, 121]⟩) = T4 := by kernel_rfl
theorem a5 : told T4 (words ⟨#[100, 105, 114, 116, 121]⟩) = [100, 105, 114, 116, 121, 32, 48, 32, 50, 32, 53, 10] := by kernel_rfl
theorem e6 : next T4 (words ⟨#[115, 121, 110, 99]⟩) = T4.step x7 := by kernel_rfl
theorem a6 : told T4 (words ⟨#[115, 121, 110, 99]⟩) = [111, 107, 10] := by kernel_rfl
theorem e7 : next T7 (words ⟨#[115, 117, 114, 101, 32, 48, 32, 97]⟩) = T7 := by kernel_rfl
theorem a7 : told T7 (words ⟨#[115, 117, 114, 101, 32, 48, 32, 97]⟩) = [116, 114, 117, 101, 10] := by kernel_rfl
theorem e8 : next T7 (words ⟨#[108, 105, 110, 107, 32, 48, 32, 97, 32, 50, 32, 98]⟩) = T7.step x9 := by kernel_rfl
theorem a8 : told T7 (words ⟨#[108, 105, 110, 107, 32, 48, 32, 97, 32, 50, 32, 98]⟩) = [111, 107, 10] := by kernel_rfl
theorem e9 : next T9 (words ⟨#[115, 97, 109, 101, 32, 48, 32, 97, 32, 50, 32, 98]⟩) = T9 := by kernel_rfl
theorem a9 : told T9 (words ⟨#[115, 97, 109, 101, 32, 48, 32, 97, 32, 50, 32, 98]⟩) = [116, 114, 117, 101, 10] := by kernel_rfl
theorem e10 : next T9 (words ⟨#[99, 114, 97, 115, 104]⟩) = T9.step x11 := by kernel_rfl
theorem a10 : told T9 (words ⟨#[99, 114, 97, 115, 104]⟩) = [111, 107, 10] := by kernel_rfl
theorem e11 : next T11 (words ⟨#[108, 105, 115, 116, 32, 50]⟩) = T11 := by kernel_rfl
theorem a11 : told T11 (words ⟨#[108, 105, 115, 116, 32, 50]⟩) = [110, 97, 109, 101, 115, 10] := by kernel_rfl
theorem e12 : next T11 (words ⟨#[108, 111, 115, 116]⟩) = T11 := by kernel_rfl
theorem a12 : told T11 (words ⟨#[108, 111, 115, 116]⟩) = [108, 111, 115, 116, 32, 49, 32, 48, 32, 48, 32, 48, 10] := by kernel_rfl
theorem e13 : next T11 (words ⟨#[120]⟩) = T11 := by kernel_rfl
theorem a13 : told T11 (words ⟨#[120]⟩) = [119, 104, 97, 116, 10] := by kernel_rfl
theorem p0 : pb 0 = T0 := rfl
theorem p1 : pb 1 = T1 := rfl
theorem p2 : pb 2 = T2 := rfl
theorem p3 : pb 3 = T2 := rfl
theorem p4 : pb 4 = T4 := rfl
theorem p5 : pb 5 = T4 := rfl
theorem p6 : pb 6 = T4 := rfl
theorem p7 : pb 7 = T7 := rfl
theorem p8 : pb 8 = T7 := rfl
theorem p9 : pb 9 = T9 := rfl
theorem p10 : pb 10 = T9 := rfl
theorem p11 : pb 11 = T11 := rfl
theorem p12 : pb 12 = T11 := rfl
theorem p13 : pb 13 = T11 := rfl
theorem p14 : pb 14 = T11 := rfl
theorem path_b : Path lb pb 0 := by
  refine ⟨by decide, fun k hk => ?_, fun k hk => ?_, fun k s hs w bl bf bc W hl => ?_⟩
  · have hk : k ≤ 14 := hk
    match k, hk with
    | 0, _ => rw [p0]; exact Ok.more o0 (by omega)
    | 1, _ => rw [p1]; exact Ok.more o1 (by omega)
    | 2, _ => rw [p2]; exact Ok.more o2 (by omega)
    | 3, _ => rw [p3]; exact Ok.more o2 (by omega)
    | 4, _ => rw [p4]; exact Ok.more o4 (by omega)
    | 5, _ => rw [p5]; exact Ok.more o4 (by omega)
    | 6, _ => rw [p6]; exact Ok.more o4 (by omega)
    | 7, _ => rw [p7]; exact Ok.more o7 (by omega)
    | 8, _ => rw [p8]; exact Ok.more o7 (by omega)
    | 9, _ => rw [p9]; exact Ok.more o9 (by omega)
    | 10, _ => rw [p10]; exact Ok.more o9 (by omega)
    | 11, _ => rw [p11]; exact Ok.more o11 (by omega)
    | 12, _ => rw [p12]; exact Ok.more o11 (by omega)
    | 13, _ => rw [p13]; exact Ok.more o11 (by omega)
    | 14, _ => rw [p14]; exact Ok.more o11 (by omega)
  · have hk : k ≤ 14 := hk
    match k, hk with
    | 0, _ => rw [p0]; exact n0
    | 1, _ => rw [p1]; exact n1
    | 2, _ => rw [p2]; exact n2
    | 3, _ => rw [p3]; exact n2
    | 4, _ => rw [p4]; exact n4
    | 5, _ => rw [p5]; exact n4
    | 6, _ => rw [p6]; exact n4
    | 7, _ => rw [p7]; exact n7
    | 8, _ => rw [p8]; exact n7
    | 9, _ => rw [p9]; exact n9
    | 10, _ => rw [p10]; exact n9
    | 11, _ => rw [p11]; exact n11
    | 12, _ => rw [p12]; exact n11
    | 13, _ => rw [p13]; exact n11
    | 14, _ => rw [p14]; exact n11
  · have hk : k < 14 := (List.getElem?_eq_some_iff.1 hs).1
    have hk2 : k = 0 ∨ k = 1 ∨ k = 2 ∨ k = 3 ∨ k = 4 ∨ k = 5 ∨ k = 6 ∨ k = 7 ∨ k = 8 ∨ k = 9 ∨ k = 10 ∨ k = 11 ∨ k = 12 ∨ k = 13 := by omega
    rcases hk2 with rfl | rfl | rfl | rfl | rfl | rfl | rfl | rfl | rfl | rfl | rfl | rfl | rfl | rfl
    · cases hs; rw [p0, e0] at hl; rw [p1]; exact hl
    · cases hs; rw [p1, e1] at hl; rw [p2]; exact hl
    · cases hs; rw [p2, e2] at hl; rw [p3]; exact hl
    · cases hs; rw [p3, e3] at hl; rw [p4]; exact hl
    · cases hs; rw [p4, e4] at hl; rw [p5]; exact hl
    · cases hs; rw [p5, e5] at hl; rw [p6]; exact hl
    · cases hs; rw [p6, e6] at hl; rw [p7]; exact sync_next o4 hl
    · cases hs; rw [p7, e7] at hl; rw [p8]; exact hl
    · cases hs; rw [p8, e8] at hl; rw [p9]; exact hl
    · cases hs; rw [p9, e9] at hl; rw [p10]; exact hl
    · cases hs; rw [p10, e10] at hl; rw [p11]; exact hl
    · cases hs; rw [p11, e11] at hl; rw [p12]; exact hl
    · cases hs; rw [p12, e12] at hl; rw [p13]; exact hl
    · cases hs; rw [p13, e13] at hl; rw [p14]; exact hl
def saidB : List UInt8 := [111, 107, 10, 111, 107, 10, 61, 120, 10, 111, 107, 10, 105, 110, 111, 100, 101, 32, 48, 32, 49, 32, 49, 32, 45, 49, 32, 45, 49, 10, 101, 110, 100, 10, 100, 105, 114, 116, 121, 32, 48, 32, 50, 32, 53, 10, 111, 107, 10, 116, 114, 117, 101, 10, 111, 107, 10, 116, 114, 117, 101, 10, 111, 107, 10, 110, 97, 109, 101, 115, 10, 108, 111, 115, 116, 32, 49, 32, 48, 32, 48, 32, 48, 10, 119, 104, 97, 116, 10]
theorem tell_b : pathTell lb pb 14 = saidB := by
  have h : pathTell lb pb 14 = (((((((((((((([] ++ told T0 (words ⟨#[109, 97, 107, 101, 32, 48, 32, 97]⟩)) ++ told T1 (words ⟨#[112, 117, 116, 32, 48, 32, 97, 32, 49, 32, 61, 120]⟩)) ++ told T2 (words ⟨#[114, 101, 97, 100, 32, 48, 32, 97, 32, 49]⟩)) ++ told T2 (words ⟨#[119, 114, 105, 116, 101, 32, 48]⟩)) ++ told T4 (words ⟨#[100, 105, 115, 107]⟩)) ++ told T4 (words ⟨#[100, 105, 114, 116, 121]⟩)) ++ told T4 (words ⟨#[115, 121, 110, 99]⟩)) ++ told T7 (words ⟨#[115, 117, 114, 101, 32, 48, 32, 97]⟩)) ++ told T7 (words ⟨#[108, 105, 110, 107, 32, 48, 32, 97, 32, 50, 32, 98]⟩)) ++ told T9 (words ⟨#[115, 97, 109, 101, 32, 48, 32, 97, 32, 50, 32, 98]⟩)) ++ told T9 (words ⟨#[99, 114, 97, 115, 104]⟩)) ++ told T11 (words ⟨#[108, 105, 115, 116, 32, 50]⟩)) ++ told T11 (words ⟨#[108, 111, 115, 116]⟩)) ++ told T11 (words ⟨#[120]⟩)) := rfl
  rw [h, a0, a1, a2, a3, a4, a5, a6, a7, a8, a9, a10, a11, a12, a13]
  rfl
theorem torn_b : torn lb = -1 := by kernel_rfl
theorem short_b : ∀ s ∈ lb, s.size ≤ 50000 := by decide +kernel
end Dsk
set_option maxHeartbeats 4000000 in
set_option maxRecDepth 100000 in
theorem deskBegun_any (w : World) (tb : Tabs w) : Calls Tryz.prog 5 #[] w fun e w' => e = .returned (.bool true) ∧ Below w.heap.size w w' := by
  have N := hide (dNew_any w (Below.refl _ w))
  have TB := hide tb
  have E := hide Dsk.tell_b
  clear tb
  go_enter Tryz.func5, Tryz.ntmps5
  go_wp2_with fail
  refine (unhide N).mono ?_
  rintro e w1 ⟨bd, bl, bf, bc, rfl, _, _, _, _, h1, b1⟩
  have b2 : Below w1.heap.size w1 (w1.alloc (.cells #[.string ⟨#[109, 97, 107, 101, 32, 48, 32, 97]⟩, .string ⟨#[112, 117, 116, 32, 48, 32, 97, 32, 49, 32, 61, 120]⟩, .string ⟨#[114, 101, 97, 100, 32, 48, 32, 97, 32, 49]⟩, .string ⟨#[119, 114, 105, 116, 101, 32, 48]⟩, .string ⟨#[100, 105, 115, 107]⟩, .string ⟨#[100, 105, 114, 116, 121]⟩, .string ⟨#[115, 121, 110, 99]⟩, .string ⟨#[115, 117, 114, 101, 32, 48, 32, 97]⟩, .string ⟨#[108, 105, 110, 107, 32, 48, 32, 97, 32, 50, 32, 98]⟩, .string ⟨#[115, 97, 109, 101, 32, 48, 32, 97, 32, 50, 32, 98]⟩, .string ⟨#[99, 114, 97, 115, 104]⟩, .string ⟨#[108, 105, 115, 116, 32, 50]⟩, .string ⟨#[108, 111, 115, 116]⟩, .string ⟨#[120]⟩] 9)) := (Below.refl _ w1).alloc (Nat.le_refl _) _
  have r2 : (w1.alloc (.cells #[.string ⟨#[109, 97, 107, 101, 32, 48, 32, 97]⟩, .string ⟨#[112, 117, 116, 32, 48, 32, 97, 32, 49, 32, 61, 120]⟩, .string ⟨#[114, 101, 97, 100, 32, 48, 32, 97, 32, 49]⟩, .string ⟨#[119, 114, 105, 116, 101, 32, 48]⟩, .string ⟨#[100, 105, 115, 107]⟩, .string ⟨#[100, 105, 114, 116, 121]⟩, .string ⟨#[115, 121, 110, 99]⟩, .string ⟨#[115, 117, 114, 101, 32, 48, 32, 97]⟩, .string ⟨#[108, 105, 110, 107, 32, 48, 32, 97, 32, 50, 32, 98]⟩, .string ⟨#[115, 97, 109, 101, 32, 48, 32, 97, 32, 50, 32, 98]⟩, .string ⟨#[99, 114, 97, 115, 104]⟩, .string ⟨#[108, 105, 115, 116, 32, 50]⟩, .string ⟨#[108, 111, 115, 116]⟩, .string ⟨#[120]⟩] 9)).heap[w1.heap.size]? = some (.cells #[.string ⟨#[109, 97, 107, 101, 32, 48, 32, 97]⟩, .string ⟨#[112, 117, 116, 32, 48, 32, 97, 32, 49, 32, 61, 120]⟩, .string ⟨#[114, 101, 97, 100, 32, 48, 32, 97, 32, 49]⟩, .string ⟨#[119, 114, 105, 116, 101, 32, 48]⟩, .string ⟨#[100, 105, 115, 107]⟩, .string ⟨#[100, 105, 114, 116, 121]⟩, .string ⟨#[115, 121, 110, 99]⟩, .string ⟨#[115, 117, 114, 101, 32, 48, 32, 97]⟩, .string ⟨#[108, 105, 110, 107, 32, 48, 32, 97, 32, 50, 32, 98]⟩, .string ⟨#[115, 97, 109, 101, 32, 48, 32, 97, 32, 50, 32, 98]⟩, .string ⟨#[99, 114, 97, 115, 104]⟩, .string ⟨#[108, 105, 115, 116, 32, 50]⟩, .string ⟨#[108, 111, 115, 116]⟩, .string ⟨#[120]⟩] 9) := heap_alloc_last _ _
  have H2 := h1.call b2
  have LN : Lns bd bl bf bc (w1.alloc (.cells #[.string ⟨#[109, 97, 107, 101, 32, 48, 32, 97]⟩, .string ⟨#[112, 117, 116, 32, 48, 32, 97, 32, 49, 32, 61, 120]⟩, .string ⟨#[114, 101, 97, 100, 32, 48, 32, 97, 32, 49]⟩, .string ⟨#[119, 114, 105, 116, 101, 32, 48]⟩, .string ⟨#[100, 105, 115, 107]⟩, .string ⟨#[100, 105, 114, 116, 121]⟩, .string ⟨#[115, 121, 110, 99]⟩, .string ⟨#[115, 117, 114, 101, 32, 48, 32, 97]⟩, .string ⟨#[108, 105, 110, 107, 32, 48, 32, 97, 32, 50, 32, 98]⟩, .string ⟨#[115, 97, 109, 101, 32, 48, 32, 97, 32, 50, 32, 98]⟩, .string ⟨#[99, 114, 97, 115, 104]⟩, .string ⟨#[108, 105, 115, 116, 32, 50]⟩, .string ⟨#[108, 111, 115, 116]⟩, .string ⟨#[120]⟩] 9)) (.slice (some ⟨w1.heap.size, 0, none⟩) 14 14) Dsk.lb := by
    refine ⟨_, _, rfl, fun i x hx => ⟨_, _, rfl, ?_, ?_⟩⟩
    · obtain ⟨ds, hd⟩ := H2.row
      obtain ⟨c1, c2, f⟩ := H2.lo.fo.it
      exact ⟨row_ne r2 hd (by decide), row_ne r2 H2.lo.root (by decide), row_ne r2 f.root (by decide), row_ne r2 f.row (by decide)⟩
    · rw [cell_of_row _ _ _ _ _ _ r2, Nat.zero_add]
      have hi : i < 14 := (List.getElem?_eq_some_iff.1 hx).1
      match i, hi with
      | 0, _ => cases hx; rfl
      | 1, _ => cases hx; rfl
      | 2, _ => cases hx; rfl
      | 3, _ => cases hx; rfl
      | 4, _ => cases hx; rfl
      | 5, _ => cases hx; rfl
      | 6, _ => cases hx; rfl
      | 7, _ => cases hx; rfl
      | 8, _ => cases hx; rfl
      | 9, _ => cases hx; rfl
      | 10, _ => cases hx; rfl
      | 11, _ => cases hx; rfl
      | 12, _ => cases hx; rfl
      | 13, _ => cases hx; rfl
  have D := hide (do_fine H2 (unhide TB) Dsk.lb (by decide) Dsk.short_b (by rw [Dsk.torn_b]; decide) Dsk.pb 0 Dsk.path_b rfl _ LN)
  rw [show Dsk.lb.length = 14 from rfl, unhide E] at D
  unfold fltA Dsk.saidB at D
  clear h1 b1 b2 r2 H2 LN N E
  go_wp2_with fail
  refine (unhide D).mono ?_
  rintro e w3 ⟨rfl, bf', bc', h3, _⟩
  have B3 := hide h3.lo.bel
  clear h3 D
  go_wp2_with fail
  go_ret
  exact ⟨rfl, (unhide B3).alloc (unhide B3).size _⟩
end Go.Proofs.YtfpfpnhpbnnmfadGreatDoor
set_option linter.unusedVariables false
namespace Go.Proofs.YtfpfpnhpbnnmfadGreatDoor
open Go.RowKit
open Idl (Stp chk stpA strs)
namespace Dsk
theorem torn_neg (L : List ByteArray) : torn L < 0 ↔ ∀ s ∈ L, hasNl s = false := by
  unfold torn
  constructor
  · intro h s hs
    obtain ⟨j, hj⟩ := List.mem_iff_getElem?.1 hs
    have hl := (List.getElem?_eq_some_iff.1 hj).1
    rcases Img.firstI_cases (fun i => hasNl (L.getD i ⟨#[]⟩)) L.length with ⟨_, h2⟩ | ⟨k, _, h1, _⟩
    · have := h2 j hl
      rw [List.getD_eq_getElem?_getD, hj] at this
      exact this
    · rw [h1] at h; omega
  · intro h
    rw [Img.firstI_none (fun j hj => by
      rw [List.getD_eq_getElem?_getD, List.getElem?_eq_getElem hj]
      exact h _ (List.getElem_mem hj))]
    omega
def many (L : List ByteArray) : Bool := decide (150 < L.length)
def fine (L : List ByteArray) : Bool := !many L && decide (torn L < 0)
def doC (L : List ByteArray) : Int := if many L = true then 14 else if torn L < 0 then 0 else 15
def doAt (L : List ByteArray) : Int := if many L = true then -1 else if torn L < 0 then 0 else torn L
def doT (S : Lv) (L : List ByteArray) : List UInt8 := if fine L = true then tells S L else []
def doN (S : Lv) (L : List ByteArray) : Lv := if fine L = true then nexts S L else S
theorem doC_zero (L : List ByteArray) : doC L = 0 ↔ fine L = true := by
  unfold doC fine
  cases many L
  · by_cases h : torn L < 0 <;> simp [h]
  · simp
theorem next_ok {S : Lv} {n : Nat} (h : S.Ok n) (ws : List ByteArray) : (next S ws).Ok (n + 1) := by
  rcases next_cases S ws with e | ⟨x, e⟩ <;> rw [e]
  · exact Ok.more h (by omega)
  · exact h.any x
theorem next_neat {S : Lv} {n : Nat} (h : S.Ok n) (hn : n ≤ 1000000) (hN : S.Neat) (ws : List ByteArray) : (next S ws).Neat := by
  rcases next_cases S ws with e | ⟨x, e⟩ <;> rw [e]
  · exact hN
  · exact hN.any h hn x
theorem nexts_ok : ∀ {L : List ByteArray} {S : Lv} {n : Nat}, S.Ok n → (nexts S L).Ok (n + L.length)
  | [], _, _, h => h
  | s :: L, S, n, h => by
    have := nexts_ok (L := L) (next_ok h (words s))
    rw [List.length_cons, show n + (L.length + 1) = n + 1 + L.length by omega]
    exact this
theorem nexts_neat : ∀ {L : List ByteArray} {S : Lv} {n : Nat}, S.Ok n → S.Neat → n + L.length ≤ 1000000 → (nexts S L).Neat
  | [], _, _, _, h, _ => h
  | s :: L, S, n, h, hN, hn => by
    rw [List.length_cons] at hn
    exact nexts_neat (L := L) (next_ok h (words s)) (next_neat h (by omega) hN (words s)) (by omega)
theorem nexts_take {S : Lv} {L : List ByteArray} {k : Nat} {s : ByteArray} (h : L[k]? = some s) : nexts S (L.take (k + 1)) = next (nexts S (L.take k)) (words s) := by
  rw [List.take_add_one, h, nexts_append]; rfl
theorem path_of {S : Lv} {n : Nat} (h : S.Ok n) (hN : S.Neat) (L : List ByteArray) (hn : n + L.length ≤ 1000000) : Path L (fun k => nexts S (L.take k)) n := by
  refine ⟨hn, fun k hk => ?_, fun k hk => ?_, fun k s hs w bl bf bc W hl => ?_⟩
  · have := nexts_ok (L := L.take k) h
    rw [List.length_take, Nat.min_eq_left hk] at this
    exact this
  · exact nexts_neat h hN (by rw [List.length_take]; omega)
  · show Lo w bl bf bc (nexts S (L.take (k + 1))) W
    rw [nexts_take hs]; exact hl
theorem pathTell_of (S : Lv) (L : List ByteArray) : ∀ k, k ≤ L.length → pathTell L (fun k => nexts S (L.take k)) k = tells S (L.take k)
  | 0, _ => rfl
  | k + 1, hk => by
    have hs : L[k]? = some (L[k]'hk) := List.getElem?_eq_getElem hk
    show pathTell L _ k ++ told (nexts S (L.take k)) (words (L.getD k ⟨#[]⟩)) = _
    rw [pathTell_of S L k (by omega), List.take_add_one, hs, tells_append, List.getD_eq_getElem?_getD, hs]
    show _ = tells S (List.take k L) ++ (told (nexts S (List.take k L)) (words (L[k]'hk)) ++ [])
    rw [List.append_nil]; rfl
end Dsk
section
variable {w W W' : World} {B bd bl bf bc : Nat} {S : Lv} {l : List UInt8}
/-- lines that lay there ahead of the desk -/
theorem lns_of (h : Dk w B bd bl bf bc S l W) {v : Value} {L : List ByteArray} (hv : Wds w v L) : Lns bd bl bf bc W v L := by
  obtain ⟨a, c, e, hc⟩ := hv
  refine ⟨a, c, e, fun i x hx => ?_⟩
  obtain ⟨g, o, e1, e2⟩ := hc i x hx
  have hl : g < w.heap.size := Lib.lt_of_cell e2
  have h1 := h.d0
  have h2 := h.lo.l0
  have h3 := h.lo.fo.f0
  have h4 := h.lo.fo.c0
  exact ⟨g, o, e1, ⟨by omega, by omega, by omega, by omega⟩, cell_below h.lo.bel e2⟩
/-- a Do of any lines -/
theorem do_any (h : Dk w B bd bl bf bc S [] W) (tb : Tabs w) (L : List ByteArray) (hL : L.length ≤ maxLen) (hs : ∀ s ∈ L, s.size ≤ 50000) {n : Nat} (hO : S.Ok n) (hN : S.Neat) (hn : n + 150 ≤ 1000000) (v : Value) (hv : Wds w v L) :
    Calls Tryz.prog 9 #[.pointer (some ⟨bd, 0, none⟩), v] W fun e w' => e = .returned (.tuple #[.string ⟨(Dsk.doT S L).toArray⟩, .agg (fltA (Dsk.doC L) (Dsk.doAt L))]) ∧ ∃ bf' bc', Dk w W.heap.size bd bl bf' bc' (Dsk.doN S L) [] w' ∧ Dd bd bl bf bc bf' bc' W w' := by
  have hln := lns_of h hv
  by_cases hm : 150 < L.length
  · have e : Dsk.many L = true := by unfold Dsk.many; simpa using hm
    have ef : Dsk.fine L = false := by unfold Dsk.fine; rw [e]; rfl
    obtain ⟨a, c, e1, _⟩ := hv
    refine (do_many h L hm hL v ⟨a, c, e1⟩).mono fun e9 w' ⟨he, hb⟩ => ⟨?_, bf, bc, ?_, hb.size, fun j hj _ _ _ _ => hb.block j hj, .inl ⟨rfl, rfl⟩⟩
    · rw [he]; unfold Dsk.doT Dsk.doC Dsk.doAt; rw [e, ef]; rfl
    · unfold Dsk.doN; rw [ef]; exact (h.call hb).rebase h.lo.bel.size hb.size
  have e : Dsk.many L = false := by unfold Dsk.many; simpa using hm
  by_cases ht : 0 ≤ Dsk.torn L
  · have ef : Dsk.fine L = false := by unfold Dsk.fine; rw [e]; simp; omega
    refine (do_torn h L (by omega) ht v hln.wds).mono fun e9 w' ⟨he, hb⟩ => ⟨?_, bf, bc, ?_, hb.size, fun j hj _ _ _ _ => hb.block j hj, .inl ⟨rfl, rfl⟩⟩
    · rw [he]; unfold Dsk.doT Dsk.doC Dsk.doAt; rw [e, ef]; simp only [Bool.false_eq_true, if_false, if_neg (show ¬ Dsk.torn L < 0 by omega)]
    · unfold Dsk.doN; rw [ef]; exact (h.call hb).rebase h.lo.bel.size hb.size
  · have ef : Dsk.fine L = true := by unfold Dsk.fine; rw [e]; simp; omega
    refine (do_fine h tb L (by omega) hs (by omega) (fun k => Dsk.nexts S (L.take k)) n (Dsk.path_of hO hN L (by omega)) rfl v hln).mono fun e9 w' ⟨he, bf', bc', h9, d9⟩ => ⟨?_, bf', bc', ?_, d9⟩
    · rw [he, Dsk.pathTell_of S L _ (Nat.le_refl _), List.take_length]; unfold Dsk.doT Dsk.doC Dsk.doAt; rw [e, ef]; simp only [Bool.false_eq_true, if_false, if_true, if_pos (show Dsk.torn L < 0 by omega)]
    · unfold Dsk.doN; rw [ef]
      rw [List.take_length] at h9
      exact h9
/-- another desk's Do -/
theorem Dk.other (h : Dk w B bd bl bf bc S [] W) {ad al af ac af' ac' : Nat} (d : Dd ad al af ac af' ac' W W') (n1 : bd ≠ ad ∧ bd ≠ al ∧ bd ≠ af ∧ bd ≠ ac) (n2 : bl ≠ ad ∧ bl ≠ al ∧ bl ≠ af ∧ bl ≠ ac) (n3 : bf ≠ ad ∧ bf ≠ al ∧ bf ≠ af ∧ bf ≠ ac) (n4 : bc ≠ ad ∧ bc ≠ al ∧ bc ≠ af ∧ bc ≠ ac) (hb : Below w.heap.size w W') : Dk w B bd bl bf bc S [] W' := by
  obtain ⟨p, v, hp, h1, h2, h3⟩ := h.it
  obtain rfl := h3 rfl
  obtain ⟨cs, ds, f⟩ := h.lo.fo.it
  exact ⟨⟨⟨⟨cs, ds, f.keep (d.old _ f.flt n3.1 n3.2.1 n3.2.2.1 n3.2.2.2) (d.old _ f.clt n4.1 n4.2.1 n4.2.2.1 n4.2.2.2)⟩, hb, h.lo.fo.f0, h.lo.fo.c0⟩, (d.old _ h.lo.lt n2.1 n2.2.1 n2.2.2.1 n2.2.2.2).trans h.lo.root, h.lo.l0, h.lo.nf, h.lo.nc⟩,
    ⟨p, _, hp, (d.old _ h.lt n1.1 n1.2.1 n1.2.2.1 n1.2.2.2).trans h1, World.ownsRow_nil _ _ _ _, fun _ => rfl⟩, h.d0, h.w0, Nat.le_trans h.b0 d.size⟩
end
/-- what slow answers -/
def SlowIs (L : List ByteArray) (e : Ending) : Prop := ∃ b, e = .returned (.bool b) ∧ (b = false → ∀ s ∈ L, s.size ≤ 50000)
set_option maxHeartbeats 1000000 in
set_option maxRecDepth 100000 in
theorem slow_any (L : List ByteArray) (hL : L.length ≤ maxLen) (hs : ∀ s ∈ L, s.size ≤ 140737488355328) (v : Value) (W : World) (hv : Wds W v L) :
    Calls Tryz.prog 6 #[v] W fun e w' => SlowIs L e ∧ w' = W := by
  obtain ⟨a, c, rfl, hc⟩ := hv
  have HC := hide hc
  have HS := hide hs
  unfold maxLen at hL
  clear hc hs
  go_enter Tryz.func6, Tryz.ntmps6
  go_wp2_with fail
  go_loop [3, 4] (fun s3 s4 => ∃ (i : Nat) (n : Int), i ≤ L.length ∧ s4 = .int .i64 i ∧ s3 = .int .i64 n ∧ 0 ≤ n ∧ n ≤ 9000 ∧ Hid (∀ (j : Nat) x, j < i → L[j]? = some x → (x.size : Int) ≤ 9000)) (fun _ s4 => L.length - (intOf s4).toNat)
  case atStart => exact ⟨0, 0, Nat.zero_le _, rfl, rfl, by omega, by omega, hide fun j x h => by omega⟩
  case round =>
    obtain ⟨i, n, hi, rfl, rfl, n0, n9, N1⟩ := hrel
    by_cases hlt : i < L.length
    case pos =>
      have hz : (i : Int) < (L.length : Int) := by omega
      obtain ⟨x, hx⟩ : ∃ x, L[i]? = some x := ⟨_, List.getElem?_eq_getElem hlt⟩
      obtain ⟨g, o, rfl, hcl⟩ := unhide HC i x hx
      have hsz := unhide HS x (List.mem_of_getElem? hx)
      by_cases hb : 9000 < n + (x.size : Int)
      case pos =>
        have q0 : decide (9000 < n + (x.size : Int)) = true := by simpa using hb
        have hadd : -9223372036854775808 ≤ n + (x.size : Int) ∧ n + (x.size : Int) ≤ 9223372036854775807 := by omega
        clear hb
        go_wp2_with fail
        go_ret
        exact ⟨⟨true, rfl, fun z => by cases z⟩, rfl⟩
      case neg =>
        have q0 : decide (9000 < n + (x.size : Int)) = false := by simpa using hb
        have hadd : -9223372036854775808 ≤ n + (x.size : Int) ∧ n + (x.size : Int) ≤ 9223372036854775807 := by omega
        have NN := hide (show ∀ (j : Nat) y, j < i + 1 → L[j]? = some y → (y.size : Int) ≤ 9000 from fun j y hj hy => by
          by_cases e : j = i
          · subst e; rw [hx] at hy; cases hy; omega
          · exact unhide N1 j y (by omega) hy)
        have hs0 : 0 ≤ n + (x.size : Int) ∧ n + (x.size : Int) ≤ 9000 := by omega
        clear hb
        go_wp2_with fail
        go_round
        case rel => exact ⟨i + 1, n + (x.size : Int), by omega, by go_num, rfl, hs0.1, hs0.2, NN⟩
        case measure => simp [intOf]; omega
    case neg =>
      have hz : ¬ (i : Int) < (L.length : Int) := by omega
      obtain rfl : i = L.length := by omega
      go_wp2_with fail
      go_ret
      refine ⟨⟨false, rfl, fun _ s hs => ?_⟩, rfl⟩
      obtain ⟨j, hj⟩ := List.mem_iff_getElem?.1 hs
      have := unhide N1 j s (List.getElem?_eq_some_iff.1 hj).1 hj
      omega
end Go.Proofs.YtfpfpnhpbnnmfadGreatDoor
