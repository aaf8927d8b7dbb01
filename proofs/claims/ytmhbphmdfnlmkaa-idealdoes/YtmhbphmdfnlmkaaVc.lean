/-
  The walks of ideal.World.file and check.
-/
import Derived.Test.YtmhbphmdfnlmkaaVb
namespace Go.Proofs.Ytmhbphmdfnlmkaa
open Go.RowKit
namespace Idl
def fptr (loc : Nat → Nat) : Option Nat → Value
  | none => .pointer none
  | some n => .pointer (some ⟨loc n, 0, none⟩)
theorem ret_val {a c : Value} (h : a = c) : Ending.returned a = .returned c := by rw [h]
section
variable {own : Nat → Prop} {sv : Nat → Value} {loc : Nat → Nat} {b : Nat} {S : St}
set_option maxHeartbeats 2000000 in
set_option maxRecDepth 100000 in
theorem file_any {w : World} (h : Rep own sv loc w b S) (hF : Few S 1000) (d : Int) (s : ByteArray) :
    Calls Try.prog 64 #[.pointer (some ⟨b, 0, none⟩), .int .i64 d, .string s] w fun e w' => e = .returned (fptr loc (lookS S d s)) ∧ Below w.heap.size w w' := by
  have hdir := isDir_any d w
  cases hD : isD d
  · rw [hD] at hdir
    have e0 : lookS S d s = none := by simp [lookS, hD]
    rw [e0]
    clear h hF e0 hD
    go_enter Try.func64, Try.ntmps64
    go_wp2_with (go_at_call 67; refine hdir.mono ?_; rintro e w' ⟨rfl, rfl⟩)
    go_ret
    exact ⟨rfl, Below.refl _ _⟩
  · rw [hD] at hdir
    have e0 : lookS S d s = look (S.dir d.toNat) s := lookS_in hD
    rw [e0]
    obtain ⟨h0, h3⟩ := isD_iff.1 hD
    obtain ⟨n, rfl⟩ := Int.eq_ofNat_of_zero_le h0
    rw [Int.toNat_natCast]
    have hn : n < 3 := by omega
    clear e0 hD h0
    have hp := place_any h hF n hn s
    have hat := at_place (h.inv.rise n) s
    have hple := pl_le (l := S.dir n) s
    have hlen := hF n
    have HR := hide h
    have hblt := h.blt
    have hroot := h.rootCell n hn
    have hforms := h.forms n hn
    clear h hF
    rcases hforms with ⟨h1, h2⟩ | ⟨g, cap, h2, _, hgb, hgl, hlc, hcm, hcells⟩
    · rw [h1] at hat hp ⊢
      rw [h2] at hroot
      have e2 : look [] s = none := rfl
      have e3 : pl [] s = 0 := rfl
      rw [e2]
      rw [e3] at hp
      clear hat hple h1 h2 e2 e3 hlen
      go_enter Try.func64, Try.ntmps64
      go_wp2_with (go_at_call 67; refine hdir.mono ?_; rintro e w' ⟨rfl, rfl⟩)
      refine hp.mono ?_
      rintro e w1 ⟨rfl, bel⟩
      have hr1 : w1.cell? ⟨b, n, none⟩ = some (.slice none 0 0) := by rw [bel.cell (p := ⟨b, n, none⟩) hblt]; exact hroot
      have BEL := hide bel
      clear bel hroot
      go_wp2
      go_ret
      exact ⟨rfl, unhide BEL⟩
    · rw [h2] at hroot
      rcases hat with ⟨h1, h4⟩ | ⟨m, h1, hlt, h4⟩
      · rw [h1]
        clear h1
        by_cases hend : pl (S.dir n) s = (S.dir n).length
        · rw [hend] at hp
          generalize (S.dir n).length = len at hp hroot hlc hlen
          go_enter Try.func64, Try.ntmps64
          go_wp2_with (go_at_call 67; refine hdir.mono ?_; rintro e w' ⟨rfl, rfl⟩)
          refine hp.mono ?_
          rintro e w1 ⟨rfl, bel⟩
          have hr1 : w1.cell? ⟨b, n, none⟩ = some (.slice (some ⟨g, 0, none⟩) len cap) := by rw [bel.cell (p := ⟨b, n, none⟩) hblt]; exact hroot
          have BEL := hide bel
          clear bel hroot
          go_wp2
          go_ret
          exact ⟨rfl, unhide BEL⟩
        · have hlt : pl (S.dir n) s < (S.dir n).length := by omega
          have hc := (hcells _ hlt).1
          have hne := keq_false.2 (h4 hlt)
          unfold keq at hne
          clear h4 hcells h2
          generalize (S.dir n)[pl (S.dir n) s].1 = nm at hc hne
          generalize (S.dir n).length = len at hp hroot hlc hlt hend hple hlen
          generalize pl (S.dir n) s = k at hp hc hlt hend hple
          have hz : (k : Int) < (len : Int) := by omega
          have hz2 : ((k : Int) == (len : Int)) = false := beq_eq_false_iff_ne.2 (by omega)
          clear hend
          go_enter Try.func64, Try.ntmps64
          go_wp2_with (go_at_call 67; refine hdir.mono ?_; rintro e w' ⟨rfl, rfl⟩)
          refine hp.mono ?_
          rintro e w1 ⟨rfl, bel⟩
          have hr1 : w1.cell? ⟨b, n, none⟩ = some (.slice (some ⟨g, 0, none⟩) len cap) := by rw [bel.cell (p := ⟨b, n, none⟩) hblt]; exact hroot
          have hc1 : w1.cell? ⟨g, k * 2, none⟩ = some (.string nm) := by rw [bel.cell (p := ⟨g, k * 2, none⟩) hgl]; exact hc
          have BEL := hide bel
          clear bel hroot hc
          go_wp2
          go_ret
          exact ⟨rfl, unhide BEL⟩
      · rw [h1]
        clear h1
        have hc := (hcells _ hlt).1
        have hc2 := (hcells _ hlt).2
        rw [h4] at hc hc2
        clear h4 hcells h2
        generalize (S.dir n).length = len at hp hroot hlc hlt hple hlen
        generalize pl (S.dir n) s = k at hp hc hc2 hlt hple
        have hz : (k : Int) < (len : Int) := by omega
        have hz2 : ((k : Int) == (len : Int)) = false := beq_eq_false_iff_ne.2 (by omega)
        have hze : (s.toList == s.toList) = true := by simp
        simp only at hc hc2
        go_enter Try.func64, Try.ntmps64
        go_wp2_with (go_at_call 67; refine hdir.mono ?_; rintro e w' ⟨rfl, rfl⟩)
        refine hp.mono ?_
        rintro e w1 ⟨rfl, bel⟩
        have hr1 : w1.cell? ⟨b, n, none⟩ = some (.slice (some ⟨g, 0, none⟩) len cap) := by rw [bel.cell (p := ⟨b, n, none⟩) hblt]; exact hroot
        have hc1 : w1.cell? ⟨g, k * 2, none⟩ = some (.string s) := by rw [bel.cell (p := ⟨g, k * 2, none⟩) hgl]; exact hc
        have hd1 : w1.cell? ⟨g, k * 2 + 1, none⟩ = some (.pointer (some ⟨loc m, 0, none⟩)) := by rw [bel.cell (p := ⟨g, k * 2 + 1, none⟩) hgl]; exact hc2
        have BEL := hide bel
        clear bel hroot hc hc2
        go_wp2
        go_ret
        exact ⟨rfl, unhide BEL⟩
theorem stp_cells (w : World) (x : Stp) (bx : Nat) (hbx : bx = w.heap.size) : ∀ j v, (stpA x)[j]? = some v → (w.alloc (.cells (stpA x) 49)).cell? ⟨bx, j, none⟩ = some v := fun j v hj => by
  rw [World.cell?_alloc_at _ _ _ _ hbx]; exact hj
theorem stp_kept (w : World) (x : Stp) (W : World) (bW : Below (w.alloc (.cells (stpA x) 49)).heap.size (w.alloc (.cells (stpA x) 49)) W) (j : Nat) (v : Value) (hj : (stpA x)[j]? = some v) : W.cell? ⟨w.heap.size, j, none⟩ = some v := by
  rw [bW.cell (p := ⟨w.heap.size, j, none⟩) (by simp)]
  exact stp_cells w x w.heap.size rfl j v hj
set_option maxHeartbeats 1000000 in
set_option maxRecDepth 100000 in
theorem check_any {w : World} (h : Rep own sv loc w b S) (hF : Few S 1000) (x : Stp) (hn : x.name.size ≤ maxLen) (ht : x.to.size ≤ maxLen) (hx : x.text.size ≤ maxLen) :
    Calls Try.prog 62 #[.pointer (some ⟨b, 0, none⟩), .agg (stpA x)] w fun e w' => e = .returned (.int .i64 (code S x)) ∧ Below w.heap.size w w' := by
  have bel0 : Below w.heap.size w (w.alloc (.cells (stpA x) 49)) := (Below.refl _ w).alloc (Nat.le_refl _) _
  have hsz : (w.alloc (.cells (stpA x) 49)).heap.size = w.heap.size + 1 := by simp
  have h0 := h.below bel0
  have hck := Check_any x hn ht hx (w.alloc (.cells (stpA x) 49))
  by_cases hk : chk x = 0
  · obtain ⟨k1, k6, _, _, _, _⟩ := chk_zero hk
    have HF1 := hide fun W (bW : Below (w.alloc (.cells (stpA x) 49)).heap.size (w.alloc (.cells (stpA x) 49)) W) => file_any (h0.below bW) hF x.dir x.name
    have HF2 := hide fun W (bW : Below (w.alloc (.cells (stpA x) 49)).heap.size (w.alloc (.cells (stpA x) 49)) W) => file_any (h0.below bW) hF x.toDir x.to
    have HC := hide fun W (bW : Below (w.alloc (.cells (stpA x) 49)).heap.size (w.alloc (.cells (stpA x) 49)) W) => stp_kept w x W bW
    have E : code S x = if x.kind = 1 then (if (lookS S x.dir x.name).isSome then 4 else 0) else if (lookS S x.dir x.name).isSome = false then 5 else if (x.kind = 2 ∨ x.kind = 4) ∧ (lookS S x.toDir x.to).isSome then 4 else 0 := by
      rw [code, if_neg (by simpa using hk)]
    rw [hk] at hck
    rw [E]
    have BEL := hide bel0
    clear hk E h h0 bel0
    cases hl : lookS S x.dir x.name <;> rw [hl] at HF1 <;> simp only [fptr] at HF1 <;> by_cases kA : x.kind = 1
    · have z0 : (x.kind == 1) = true := by simpa using kA
      rw [if_pos kA, if_neg (by simp)]
      clear hl kA
      go_enter Try.func62, Try.ntmps62
      go_wp2_with fail
      refine hck.mono ?_
      rintro e w1 ⟨rfl, bel⟩
      have f1 := unhide HF1 w1 bel
      have c1 := unhide HC w1 bel 1 _ rfl
      have c4 := unhide HC w1 bel 4 _ rfl
      have BEL1 := hide bel
      clear bel
      go_wp2_with fail
      refine f1.mono ?_
      rintro e w2 ⟨rfl, bel⟩
      have BEL2 := hide ((unhide BEL1).trans (bel.mono (unhide BEL1).size))
      have d0 := unhide HC w2 (unhide BEL2) 0 _ rfl
      clear bel c1 c4 f1
      go_wp2
      go_ret
      exact ⟨rfl, (unhide BEL).trans ((unhide BEL2).mono (by rw [hsz]; omega))⟩
    · have z0 : (x.kind == 1) = false := by simpa using kA
      rw [if_neg kA, if_pos (by simp)]
      clear hl kA
      go_enter Try.func62, Try.ntmps62
      go_wp2_with fail
      refine hck.mono ?_
      rintro e w1 ⟨rfl, bel⟩
      have f1 := unhide HF1 w1 bel
      have c1 := unhide HC w1 bel 1 _ rfl
      have c4 := unhide HC w1 bel 4 _ rfl
      have BEL1 := hide bel
      clear bel
      go_wp2_with fail
      refine f1.mono ?_
      rintro e w2 ⟨rfl, bel⟩
      have BEL2 := hide ((unhide BEL1).trans (bel.mono (unhide BEL1).size))
      have d0 := unhide HC w2 (unhide BEL2) 0 _ rfl
      clear bel c1 c4 f1
      go_wp2
      go_ret
      exact ⟨rfl, (unhide BEL).trans ((unhide BEL2).mono (by rw [hsz]; omega))⟩
    · have z0 : (x.kind == 1) = true := by simpa using kA
      rw [if_pos kA, if_pos (by simp)]
      clear hl kA
      go_enter Try.func62, Try.ntmps62
      go_wp2_with fail
      refine hck.mono ?_
      rintro e w1 ⟨rfl, bel⟩
      have f1 := unhide HF1 w1 bel
      have c1 := unhide HC w1 bel 1 _ rfl
      have c4 := unhide HC w1 bel 4 _ rfl
      have BEL1 := hide bel
      clear bel
      go_wp2_with fail
      refine f1.mono ?_
      rintro e w2 ⟨rfl, bel⟩
      have BEL2 := hide ((unhide BEL1).trans (bel.mono (unhide BEL1).size))
      have d0 := unhide HC w2 (unhide BEL2) 0 _ rfl
      clear bel c1 c4 f1
      go_wp2
      go_ret
      exact ⟨rfl, (unhide BEL).trans ((unhide BEL2).mono (by rw [hsz]; omega))⟩
    have z0 : (x.kind == 1) = false := by simpa using kA
    rw [if_neg kA, if_neg (by simp)]
    clear hl kA
    by_cases kB : x.kind = 2
    · have z1 : (x.kind == 2) = true := by simpa using kB
      cases hl2 : lookS S x.toDir x.to <;> rw [hl2] at HF2 <;> simp only [fptr] at HF2
      · rw [if_neg (by simp)]
        clear hl2 kB
        go_enter Try.func62, Try.ntmps62
        go_wp2_with fail
        refine hck.mono ?_
        rintro e w1 ⟨rfl, bel⟩
        have f1 := unhide HF1 w1 bel
        have c1 := unhide HC w1 bel 1 _ rfl
        have c4 := unhide HC w1 bel 4 _ rfl
        have BEL1 := hide bel
        clear bel
        go_wp2_with fail
        refine f1.mono ?_
        rintro e w2 ⟨rfl, bel⟩
        have BEL2 := hide ((unhide BEL1).trans (bel.mono (unhide BEL1).size))
        have d0 := unhide HC w2 (unhide BEL2) 0 _ rfl
        clear bel c1 c4 f1
        have f2 := unhide HF2 w2 (unhide BEL2)
        have d2 := unhide HC w2 (unhide BEL2) 2 _ rfl
        have d5 := unhide HC w2 (unhide BEL2) 5 _ rfl
        go_wp2_with fail
        refine f2.mono ?_
        rintro e w3 ⟨rfl, bel⟩
        have BEL3 := hide ((unhide BEL2).trans (bel.mono (unhide BEL2).size))
        clear bel f2
        go_wp2
        go_ret
        exact ⟨rfl, (unhide BEL).trans ((unhide BEL3).mono (by rw [hsz]; omega))⟩
      · rw [if_pos ⟨.inl kB, by simp⟩]
        clear hl2 kB
        go_enter Try.func62, Try.ntmps62
        go_wp2_with fail
        refine hck.mono ?_
        rintro e w1 ⟨rfl, bel⟩
        have f1 := unhide HF1 w1 bel
        have c1 := unhide HC w1 bel 1 _ rfl
        have c4 := unhide HC w1 bel 4 _ rfl
        have BEL1 := hide bel
        clear bel
        go_wp2_with fail
        refine f1.mono ?_
        rintro e w2 ⟨rfl, bel⟩
        have BEL2 := hide ((unhide BEL1).trans (bel.mono (unhide BEL1).size))
        have d0 := unhide HC w2 (unhide BEL2) 0 _ rfl
        clear bel c1 c4 f1
        have f2 := unhide HF2 w2 (unhide BEL2)
        have d2 := unhide HC w2 (unhide BEL2) 2 _ rfl
        have d5 := unhide HC w2 (unhide BEL2) 5 _ rfl
        go_wp2_with fail
        refine f2.mono ?_
        rintro e w3 ⟨rfl, bel⟩
        have BEL3 := hide ((unhide BEL2).trans (bel.mono (unhide BEL2).size))
        clear bel f2
        go_wp2
        go_ret
        exact ⟨rfl, (unhide BEL).trans ((unhide BEL3).mono (by rw [hsz]; omega))⟩
    have z1 : (x.kind == 2) = false := by simpa using kB
    by_cases kC : x.kind = 4
    · have z2 : (x.kind == 4) = true := by simpa using kC
      cases hl2 : lookS S x.toDir x.to <;> rw [hl2] at HF2 <;> simp only [fptr] at HF2
      · rw [if_neg (by simp)]
        clear hl2 kB kC
        go_enter Try.func62, Try.ntmps62
        go_wp2_with fail
        refine hck.mono ?_
        rintro e w1 ⟨rfl, bel⟩
        have f1 := unhide HF1 w1 bel
        have c1 := unhide HC w1 bel 1 _ rfl
        have c4 := unhide HC w1 bel 4 _ rfl
        have BEL1 := hide bel
        clear bel
        go_wp2_with fail
        refine f1.mono ?_
        rintro e w2 ⟨rfl, bel⟩
        have BEL2 := hide ((unhide BEL1).trans (bel.mono (unhide BEL1).size))
        have d0 := unhide HC w2 (unhide BEL2) 0 _ rfl
        clear bel c1 c4 f1
        have f2 := unhide HF2 w2 (unhide BEL2)
        have d2 := unhide HC w2 (unhide BEL2) 2 _ rfl
        have d5 := unhide HC w2 (unhide BEL2) 5 _ rfl
        go_wp2_with fail
        refine f2.mono ?_
        rintro e w3 ⟨rfl, bel⟩
        have BEL3 := hide ((unhide BEL2).trans (bel.mono (unhide BEL2).size))
        clear bel f2
        go_wp2
        go_ret
        exact ⟨rfl, (unhide BEL).trans ((unhide BEL3).mono (by rw [hsz]; omega))⟩
      · rw [if_pos ⟨.inr kC, by simp⟩]
        clear hl2 kB kC
        go_enter Try.func62, Try.ntmps62
        go_wp2_with fail
        refine hck.mono ?_
        rintro e w1 ⟨rfl, bel⟩
        have f1 := unhide HF1 w1 bel
        have c1 := unhide HC w1 bel 1 _ rfl
        have c4 := unhide HC w1 bel 4 _ rfl
        have BEL1 := hide bel
        clear bel
        go_wp2_with fail
        refine f1.mono ?_
        rintro e w2 ⟨rfl, bel⟩
        have BEL2 := hide ((unhide BEL1).trans (bel.mono (unhide BEL1).size))
        have d0 := unhide HC w2 (unhide BEL2) 0 _ rfl
        clear bel c1 c4 f1
        have f2 := unhide HF2 w2 (unhide BEL2)
        have d2 := unhide HC w2 (unhide BEL2) 2 _ rfl
        have d5 := unhide HC w2 (unhide BEL2) 5 _ rfl
        go_wp2_with fail
        refine f2.mono ?_
        rintro e w3 ⟨rfl, bel⟩
        have BEL3 := hide ((unhide BEL2).trans (bel.mono (unhide BEL2).size))
        clear bel f2
        go_wp2
        go_ret
        exact ⟨rfl, (unhide BEL).trans ((unhide BEL3).mono (by rw [hsz]; omega))⟩
    · have z2 : (x.kind == 4) = false := by simpa using kC
      rw [if_neg (fun hh => by rcases hh.1 with h | h; exact kB h; exact kC h)]
      clear kB kC
      go_enter Try.func62, Try.ntmps62
      go_wp2_with fail
      refine hck.mono ?_
      rintro e w1 ⟨rfl, bel⟩
      have f1 := unhide HF1 w1 bel
      have c1 := unhide HC w1 bel 1 _ rfl
      have c4 := unhide HC w1 bel 4 _ rfl
      have BEL1 := hide bel
      clear bel
      go_wp2_with fail
      refine f1.mono ?_
      rintro e w2 ⟨rfl, bel⟩
      have BEL2 := hide ((unhide BEL1).trans (bel.mono (unhide BEL1).size))
      have d0 := unhide HC w2 (unhide BEL2) 0 _ rfl
      clear bel c1 c4 f1
      go_wp2
      go_ret
      exact ⟨rfl, (unhide BEL).trans ((unhide BEL2).mono (by rw [hsz]; omega))⟩
  · have e0 : code S x = chk x := by unfold code; rw [if_pos hk]
    rw [e0]
    have hkb : (chk x != 0) = true := by simpa using hk
    generalize chk x = c at hck hkb ⊢
    clear e0 hk h hF h0
    have BEL := hide bel0
    clear bel0
    go_enter Try.func62, Try.ntmps62
    go_wp2_with fail
    refine hck.mono ?_
    rintro e w1 ⟨rfl, bel⟩
    have BEL1 := hide bel
    clear bel
    go_wp2
    go_ret
    exact ⟨rfl, (unhide BEL).trans ((unhide BEL1).mono (by rw [hsz]; omega))⟩
end
end Idl
end Go.Proofs.Ytmhbphmdfnlmkaa
