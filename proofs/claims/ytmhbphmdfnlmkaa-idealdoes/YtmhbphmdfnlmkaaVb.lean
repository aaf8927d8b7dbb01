/-
  The walks of ideal.World.place's function, of sort.Search over such a one, and of place.
-/
import Derived.Test.YtmhbphmdfnlmkaaVa
import Derived.Deep.LoopGhost
import Derived.Shelf.Abstract
namespace Go.Proofs.Ytmhbphmdfnlmkaa
open Go.RowKit
namespace Idl
section
variable {own : Nat → Prop} {sv : Nat → Value} {loc : Nat → Nat} {b : Nat} {S : St}
set_option maxHeartbeats 800000 in
theorem place1_any (W : World) (d i g cap n bw bd bs : Nat) (nm s : ByteArray) (hd : d < 3) (hi : i < n)
    (h1 : W.cell? ⟨bw, 0, none⟩ = some (.pointer (some ⟨b, 0, none⟩))) (h2 : W.cell? ⟨bd, 0, none⟩ = some (.int .i64 d)) (h3 : W.cell? ⟨bs, 0, none⟩ = some (.string s))
    (h4 : W.cell? ⟨b, d, none⟩ = some (.slice (some ⟨g, 0, none⟩) n cap)) (h5 : W.cell? ⟨g, i * 2, none⟩ = some (.string nm)) :
    Calls Try.prog 85 (#[.int .i64 i] ++ #[.pointer (some ⟨bw, 0, none⟩), .pointer (some ⟨bd, 0, none⟩), .pointer (some ⟨bs, 0, none⟩)]) W fun e w' => e = .returned (.bool (!lt nm s)) ∧ ∃ q, w' = W.drewN q := by
  have hiz : (i : Int) < (n : Int) := by omega
  have hdz : (d : Int) < 3 := by omega
  have hlt : lt nm s = Op.bytesLess nm.toList s.toList := rfl
  rw [hlt]
  clear hlt
  show Calls Try.prog 85 #[.int .i64 i, .pointer (some ⟨bw, 0, none⟩), .pointer (some ⟨bd, 0, none⟩), .pointer (some ⟨bs, 0, none⟩)] W _
  go_enter Try.func85, Try.ntmps85
  go_wp2
  go_quiet (fail)
  go_wp2
  go_ret
  exact ⟨rfl, _, rfl⟩
set_option maxHeartbeats 2000000 in
set_option maxRecDepth 100000 in
/-- sort.Search over a function that is false below k and true from there on, and leaves all as it was -/
theorem search_any (g : Nat) (cb : Array Value) (n k : Nat) (w : World) (eg : ∀ args w, (callFunc g args).run Try.prog w = .ok (.enter g args) w) (hsz : n < 4611686018427387904) (hk : k ≤ n)
    (hf : ∀ (m i : Nat), i < n → Calls Try.prog g (#[.int .i64 i] ++ cb) (w.drewN m) fun e w' => e = .returned (.bool (!decide (i < k))) ∧ ∃ q, w' = w.drewN q) :
    Calls Try.prog 84 #[.int .i64 n, .func (.func g) #[] cb] w fun e w' => e = .returned (.int .i64 k) ∧ ∃ q, w' = w.drewN q := by
  have HF := hide hf
  clear hf
  go_enter Try.func84, Try.ntmps84
  go_wp2
  go_loopg [5, 6] n (fun kx s5 s6 wr => ∃ (lo hi q : Nat), s5 = .int .i64 lo ∧ s6 = .int .i64 hi ∧ lo ≤ k ∧ k ≤ hi ∧ hi ≤ n ∧ hi - lo ≤ kx ∧ wr = w.drewN q)
  case atStart => exact ⟨0, n, 0, rfl, rfl, Nat.zero_le _, hk, Nat.le_refl _, by omega, rfl⟩
  case round =>
    obtain ⟨lo, hi, q, rfl, rfl, h1, h2, h3, h4, rfl⟩ := hrel
    by_cases hlt : lo < hi
    · have hc := unhide HF q ((lo + hi) / 2) (by omega)
      rw [show (((lo + hi) / 2 : Nat) : Int) = ((lo : Int) + (hi : Int)) / 2 by omega] at hc
      by_cases hp : (lo + hi) / 2 < k
      · rw [decide_eq_true hp] at hc
        go_wp2_with (go_at_fn g; refine hc.mono ?_; rintro e w' ⟨rfl, nq, rfl⟩)
        go_roundg (hi - ((lo + hi) / 2 + 1))
        case measure => omega
        case rel => exact ⟨(lo + hi) / 2 + 1, hi, nq, by rw [show ((lo : Int) + (hi : Int)) / 2 + 1 = (((lo + hi) / 2 + 1 : Nat) : Int) by omega], rfl, by omega, by omega, by omega, Nat.le_refl _, rfl⟩
      · rw [decide_eq_false hp] at hc
        go_wp2_with (go_at_fn g; refine hc.mono ?_; rintro e w' ⟨rfl, nq, rfl⟩)
        go_roundg ((lo + hi) / 2 - lo)
        case measure => omega
        case rel => exact ⟨lo, (lo + hi) / 2, nq, rfl, by rw [show ((lo : Int) + (hi : Int)) / 2 = (((lo + hi) / 2 : Nat) : Int) by omega], by omega, by omega, by omega, Nat.le_refl _, rfl⟩
    · obtain rfl : k = lo := by omega
      go_wp2
      go_ret
      exact ⟨rfl, q, rfl⟩
theorem belowD {B : Nat} {a w : World} (h : Below B a w) {n : Nat} : Below B a (w.drewN n) := ⟨h.os, h.tape, h.output, h.size, h.block⟩
def boxes (w : World) (b : Nat) (d : Int) (s : ByteArray) : World :=
  ((w.alloc (Obj.cells #[Value.pointer (some { block := b, off := 0 })] 52)).alloc (Obj.cells #[Value.int IntKind.i64 d] 3)).alloc (Obj.cells #[Value.string s] 9)
theorem boxes_cells (w : World) (b : Nat) (d : Int) (s : ByteArray) :
    (boxes w b d s).cell? ⟨w.heap.size, 0, none⟩ = some (.pointer (some ⟨b, 0, none⟩)) ∧ (boxes w b d s).cell? ⟨w.heap.size + 1, 0, none⟩ = some (.int .i64 d) ∧ (boxes w b d s).cell? ⟨w.heap.size + 1 + 1, 0, none⟩ = some (.string s) := by
  have e1 : (w.alloc (Obj.cells #[Value.pointer (some { block := b, off := 0 })] 52)).heap.size = w.heap.size + 1 := by simp
  have e2 : ((w.alloc (Obj.cells #[Value.pointer (some { block := b, off := 0 })] 52)).alloc (Obj.cells #[Value.int IntKind.i64 d] 3)).heap.size = w.heap.size + 1 + 1 := by simp
  refine ⟨?_, ?_, ?_⟩
  · unfold boxes
    rw [World.cell?_alloc_past _ _ _ (by rw [e2]; omega), World.cell?_alloc_past _ _ _ (by rw [e1]; omega), World.cell?_alloc_at _ _ _ _ rfl]; rfl
  · unfold boxes
    rw [World.cell?_alloc_past _ _ _ (by rw [e2]; omega), World.cell?_alloc_at _ _ _ _ e1.symm]; rfl
  · unfold boxes
    rw [World.cell?_alloc_at _ _ _ _ e2.symm]; rfl
theorem boxes_below (w : World) (b : Nat) (d : Int) (s : ByteArray) : Below w.heap.size w (boxes w b d s) :=
  (((Below.refl _ w).alloc (Nat.le_refl _) _).alloc (by simp) _).alloc (by simp; omega) _
set_option maxHeartbeats 2000000 in
set_option maxRecDepth 100000 in
theorem place_any {w : World} (h : Rep own sv loc w b S) (hF : Few S 1000) (d : Nat) (hd : d < 3) (s : ByteArray) :
    Calls Try.prog 79 #[.pointer (some ⟨b, 0, none⟩), .int .i64 d, .string s] w fun e w' => e = .returned (.int .i64 (pl (S.dir d) s)) ∧ Below w.heap.size w w' := by
  have hroot := h.rootCell d hd
  have hblt := h.blt
  have hdz : (d : Int) < 3 := by omega
  have hple := pl_le (l := S.dir d) s
  have hris := hide (h.inv.rise d)
  have hbel := boxes_below w b d s
  obtain ⟨c1, c2, c3⟩ := boxes_cells w b d s
  have eg : ∀ args w, (callFunc 85 args).run Try.prog w = .ok (.enter 85 args) w := enters_of Try.func85 (by kernel_rfl) rfl
  have hrt : (boxes w b d s).cell? ⟨b, d, none⟩ = some (sv d) := by rw [hbel.cell (p := ⟨b, d, none⟩) hblt]; exact hroot
  clear hroot
  rcases h.forms d hd with ⟨h1, h2⟩ | ⟨g, cap, h2, _, hgb, hgl, hlc, hcm, hcells⟩
  · rw [h2] at hrt
    have e0 : pl (S.dir d) s = 0 := by rw [h1]; rfl
    rw [e0]
    clear h1 h2 e0 hple h hris
    go_enter Try.func79, Try.ntmps79
    go_wp2_with fail
    rw [← boxes.eq_1]
    generalize boxes w b d s = W at hbel c1 c2 c3 hrt ⊢
    have hs : ∀ m, Calls Try.prog 84 #[.int .i64 0, .func (.func 85) #[] #[.pointer (some ⟨w.heap.size, 0, none⟩), .pointer (some ⟨w.heap.size + 1, 0, none⟩), .pointer (some ⟨w.heap.size + 1 + 1, 0, none⟩)]] (W.drewN m) fun e w' => e = .returned (.int .i64 0) ∧ ∃ q, w' = W.drewN q := fun m =>
      (search_any 85 _ 0 0 (W.drewN m) eg (by omega) (by omega) (fun _ i hi => absurd hi (Nat.not_lt_zero _))).mono (by rintro e w' ⟨rfl, q, rfl⟩; exact ⟨rfl, m + q, World.drewN_drewN _ _ _⟩)
    have HS := hide hs
    clear hs eg
    go_quiet ((go_at_call 84; exact unhide HS _))
    go_wp2
    go_ret
    exact ⟨rfl, belowD hbel⟩
  · rw [h2] at hrt
    unfold maxLen at hcm
    have hsm : (S.dir d).length < 4611686018427387904 := by have := hF d; omega
    have hpb := fun i hi => below_pl (unhide hris) s i hi
    generalize hk : pl (S.dir d) s = k at hple hpb ⊢
    have HP := hide hpb
    clear hpb hk
    have hcl : ∀ i (hi : i < (S.dir d).length), (boxes w b d s).cell? ⟨g, i * 2, none⟩ = some (.string (S.dir d)[i].1) := fun i hi => by rw [hbel.cell (p := ⟨g, i * 2, none⟩) hgl]; exact (hcells i hi).1
    clear h2 h hcells
    go_enter Try.func79, Try.ntmps79
    go_wp2_with fail
    rw [← boxes.eq_1]
    generalize boxes w b d s = W at hbel c1 c2 c3 hrt hcl ⊢
    have hs : ∀ m, Calls Try.prog 84 #[.int .i64 ((S.dir d).length : Nat), .func (.func 85) #[] #[.pointer (some ⟨w.heap.size, 0, none⟩), .pointer (some ⟨w.heap.size + 1, 0, none⟩), .pointer (some ⟨w.heap.size + 1 + 1, 0, none⟩)]] (W.drewN m) fun e w' => e = .returned (.int .i64 k) ∧ ∃ q, w' = W.drewN q := fun m =>
      (search_any 85 _ (S.dir d).length k (W.drewN m) eg hsm hple (fun m' i hi => by
        rw [World.drewN_drewN, ← unhide HP i hi]
        refine (place1_any (W.drewN (m + m')) d i g cap (S.dir d).length _ _ _ (S.dir d)[i].1 s hd hi c1 c2 c3 hrt (hcl i hi)).mono ?_
        rintro e w' ⟨rfl, q, rfl⟩
        exact ⟨rfl, m' + q, by rw [World.drewN_drewN, World.drewN_drewN, Nat.add_assoc]⟩)).mono (by rintro e w' ⟨rfl, q, rfl⟩; exact ⟨rfl, m + q, World.drewN_drewN _ _ _⟩)
    have HS := hide hs
    clear hs eg hcl
    go_quiet ((go_at_call 84; exact unhide HS _))
    go_wp2
    go_ret
    exact ⟨rfl, belowD hbel⟩
end
end Idl
end Go.Proofs.Ytmhbphmdfnlmkaa
