/-
  The walks of eiderdownref.SameTexts (over two lists that are one) and eiderdownlaw.idealBegun.
-/
import Derived.Test.YtmhbphmdfnlmkaaVr
namespace Go.Proofs.Ytmhbphmdfnlmkaa
open Go.RowKit
namespace Idl
theorem names_cell {w : World} {base : Nat} {v : Value} {l : List ByteArray} (h : w.ownsRow base 9 1 v l.length (strs l)) :
    (v = .slice none 0 0 ∧ l = []) ∨ ∃ g c, v = .slice (some ⟨g, 0, none⟩) l.length c ∧ g < w.heap.size ∧ ∀ i (hi : i < l.length), w.cell? ⟨g, i, none⟩ = some (.string l[i]) := by
  rcases h.2 with ⟨h1, h2⟩ | ⟨g, cap, cur, h1, _, h3, h4, h5, h6, h7⟩
  · exact .inl ⟨h1, List.eq_nil_of_length_eq_zero h2⟩
  · refine .inr ⟨g, cap, h1, (Array.getElem?_eq_some_iff.1 h3).1, fun i hi => ?_⟩
    rw [cell_of_row w g _ _ _ _ h3]
    have : (strs l)[i]? = some (.string l[i]) := by simp [strs, hi]
    rw [← h7, List.getElem?_take] at this
    split at this
    · simpa using this
    · cases this
set_option maxHeartbeats 1000000 in
set_option maxRecDepth 100000 in
theorem SameTexts_any {w : World} {b1 b2 : Nat} {v1 v2 : Value} {l : List ByteArray} (h1 : w.ownsRow b1 9 1 v1 l.length (strs l)) (h2 : w.ownsRow b2 9 1 v2 l.length (strs l)) (hl : l.length ≤ 1000) :
    Calls Try.prog 29 #[v1, v2] w fun e w' => e = .returned (.bool true) ∧ Below w.heap.size w w' := by
  rcases names_cell h1 with ⟨rfl, rfl⟩ | ⟨g1, c1, rfl, gl1, k1⟩
  · have e2 : v2 = .slice none 0 0 ∨ ∃ g c, v2 = .slice (some ⟨g, 0, none⟩) 0 c := by
      rcases names_cell h2 with ⟨h, _⟩ | ⟨g, c, h, _, _⟩
      · exact .inl h
      · exact .inr ⟨g, c, h⟩
    clear h1 h2
    rcases e2 with rfl | ⟨g, c, rfl⟩
    · go_enter Try.func29, Try.ntmps29
      go_wp2
      go_loopw [5] (fun i wr => i = .int .i64 0 ∧ wr = w) (fun _ _ => 0)
      case atStart => exact ⟨rfl, rfl⟩
      case round =>
        obtain ⟨rfl, rfl⟩ := hrel
        go_wp2
        go_ret
        exact ⟨rfl, Below.refl _ _⟩
    · go_enter Try.func29, Try.ntmps29
      go_wp2
      go_loopw [5] (fun i wr => i = .int .i64 0 ∧ wr = w) (fun _ _ => 0)
      case atStart => exact ⟨rfl, rfl⟩
      case round =>
        obtain ⟨rfl, rfl⟩ := hrel
        go_wp2
        go_ret
        exact ⟨rfl, Below.refl _ _⟩
  · rcases names_cell h2 with ⟨rfl, rfl⟩ | ⟨g2, c2, rfl, gl2, k2⟩
    · clear h1 h2
      go_enter Try.func29, Try.ntmps29
      go_wp2
      go_loopw [5] (fun i wr => i = .int .i64 0 ∧ wr = w) (fun _ _ => 0)
      case atStart => exact ⟨rfl, rfl⟩
      case round =>
        obtain ⟨rfl, rfl⟩ := hrel
        go_wp2
        go_ret
        exact ⟨rfl, Below.refl _ _⟩
    · have K1 := hide k1
      have K2 := hide k2
      clear h1 h2 k1 k2
      go_enter Try.func29, Try.ntmps29
      go_wp2
      go_loopw [5] (fun i wr => ∃ k q : Nat, k ≤ l.length ∧ i = .int .i64 k ∧ wr = w.drewN q) (fun i _ => l.length - (intOf i).toNat)
      case atStart => exact ⟨0, 0, Nat.zero_le _, rfl, rfl⟩
      case round =>
        obtain ⟨k, q, hk, rfl, rfl⟩ := hrel
        by_cases hlt : k < l.length
        · have d1 := unhide K1 k hlt
          have d2 := unhide K2 k hlt
          generalize l[k] = nm at d1 d2
          have hz : (k : Int) < (l.length : Int) := by omega
          have hq : (nm.toList == nm.toList) = true := by simp
          go_wp2_with fail
          go_quiet (fail)
          go_wp2
          go_roundw
          case rel => exact ⟨k + 1, q + nq, by omega, by go_num, rfl⟩
          case measure => simp [intOf]; omega
        · go_wp2
          go_ret
          exact ⟨rfl, belowD (Below.refl _ _)⟩
/-- one world in memory, made behind w -/
structure One (w : World) (b : Nat) (S : St) (W : World) : Prop where
  it : ∃ own sv loc, Rep own sv loc W b S ∧ ∀ k, own k → w.heap.size ≤ k
  bel : Below w.heap.size w W
theorem One.new (w : World) {W : World} (hb : Below w.heap.size w W) : One w W.heap.size St.empty (W.alloc (.cells #[.slice none 0 0, .slice none 0 0, .slice none 0 0] 89)) :=
  ⟨⟨_, _, _, Rep.new W, fun k hk => by rw [hk]; exact hb.size⟩, hb.alloc hb.size _⟩
theorem One.inv {w W : World} {b : Nat} {S : St} (h : One w b S W) : Inv S := by
  obtain ⟨o, s, l, r, _⟩ := h.it
  exact r.inv
theorem One.grow {w W W' : World} {b : Nat} {S : St} (h : One w b S W) (hb : Below W.heap.size W W') : One w b S W' := by
  obtain ⟨o, s, l, r, ho⟩ := h.it
  exact ⟨⟨o, s, l, r.below hb, ho⟩, h.bel.trans (hb.mono h.bel.size)⟩
theorem One.step {w W : World} {b : Nat} {S : St} (h : One w b S W) (hF : Few S 999) (x : Stp) (hx : x.ok) :
    Calls Try.prog 27 #[.pointer (some ⟨b, 0, none⟩), .agg (stpA x)] W fun e w' => e = .returned (.int .i64 (code S x)) ∧ One w b (Idl.step S x) w' := by
  obtain ⟨o, s, l, r, ho⟩ := h.it
  obtain ⟨x1, x2, x3⟩ := hx.big
  refine (Do_any r hF x x1 x2 x3).mono ?_
  rintro e w' ⟨rfl, o3, s3, l3, r3, c, ho3⟩
  have hs := h.bel.size
  refine ⟨rfl, ⟨o3, s3, l3, r3, fun k hk => ?_⟩, h.bel.trans (c.below hs ho)⟩
  rcases ho3 k hk with h1 | h1
  · exact ho k h1
  · omega
theorem One.read {w W : World} {b : Nat} {S : St} (h : One w b S W) (hF : Few S 1000) (d : Int) (s : ByteArray) (hs : s.size ≤ maxLen) (p : Int) :
    Calls Try.prog 32 #[.pointer (some ⟨b, 0, none⟩), .int .i64 d, .string s, .int .i64 p] W fun e w' => e = .returned (.tuple #[.string (rdT S d s p), .bool (rdB S d s p), .int .i64 (code S (cut d s p))]) ∧ One w b S w' ∧ Below W.heap.size W w' := by
  obtain ⟨o, sv, l, r, _⟩ := h.it
  refine (Read_any r hF d s hs p).mono ?_
  rintro e w' ⟨rfl, b⟩
  exact ⟨rfl, h.grow b, b⟩
theorem One.same {w W : World} {b : Nat} {S : St} (h : One w b S W) (hF : Few S 1000) (d : Int) (s : ByteArray) (d2 : Int) (s2 : ByteArray) :
    Calls Try.prog 34 #[.pointer (some ⟨b, 0, none⟩), .int .i64 d, .string s, .int .i64 d2, .string s2] W fun e w' => e = .returned (.bool (Idl.same S d s d2 s2)) ∧ One w b S w' ∧ Below W.heap.size W w' := by
  obtain ⟨o, sv, l, r, _⟩ := h.it
  refine (Same_any r hF d s d2 s2).mono ?_
  rintro e w' ⟨rfl, b⟩
  exact ⟨rfl, h.grow b, b⟩
theorem One.list {w W : World} {b : Nat} {S : St} (h : One w b S W) (hF : Few S 1000) (d : Int) :
    Calls Try.prog 30 #[.pointer (some ⟨b, 0, none⟩), .int .i64 d] W fun e w' => ∃ v, e = .returned v ∧ w'.ownsRow W.heap.size 9 1 v (names S d).length (strs (names S d)) ∧ One w b S w' ∧ Below W.heap.size W w' := by
  obtain ⟨o, sv, l, r, _⟩ := h.it
  refine (List_any r hF d).mono ?_
  rintro e w' ⟨v, rfl, ho, b⟩
  exact ⟨v, rfl, ho, h.grow b, b⟩
def sA : ByteArray := ⟨#[97]⟩
def sB : ByteArray := ⟨#[98]⟩
def sX : ByteArray := ⟨#[120]⟩
def x1 : Stp := ⟨1, 0, 0, 0, sA, none0, none0⟩
def x2 : Stp := ⟨2, 0, 1, 0, sA, sB, none0⟩
def x3 : Stp := ⟨5, 1, 0, 1, sB, none0, sX⟩
def x4 : Stp := ⟨3, 0, 0, 0, sA, none0, none0⟩
def x0 : Stp := ⟨0, 0, 0, 0, none0, none0, none0⟩
def T1 : St := step St.empty x1
def T2 : St := step T1 x2
def T3 : St := step T2 x3
def T4 : St := step T3 x4
theorem k1 : code St.empty x1 = 0 := by decide +kernel
theorem k2 : code T1 x2 = 0 := by decide +kernel
theorem k3 : code T2 x3 = 0 := by decide +kernel
theorem k4 : code T3 x4 = 0 := by decide +kernel
theorem k5 : code T4 (cut 1 sB 1) = 0 := by decide +kernel
theorem k6 : rdB T4 1 sB 1 = true := by decide +kernel
theorem k7 : rdT T4 1 sB 1 = sX := by
  have : (rdT T4 1 sB 1).data = #[120] := by decide +kernel
  rw [sX, ← this]
theorem k8 : same T4 1 sB 1 sB = true := by decide +kernel
theorem k9 : names T4 0 = [] := List.eq_nil_of_length_eq_zero (by decide +kernel)
theorem k10 : chk x0 = 7 := by decide +kernel
theorem small (n : Nat) (h : n ≤ 1) : n ≤ maxLen := by unfold maxLen; omega
theorem few0 : Few St.empty 0 := fun _ => Nat.le_refl _
set_option maxHeartbeats 2000000 in
set_option maxRecDepth 100000 in
theorem begun_any (w : World) : Calls Try.prog 21 #[] w fun e w' => e = .returned (.bool true) ∧ Below w.heap.size w w' := by
  have f1 : Few T1 1 := few0.step x1
  have f2 : Few T2 2 := f1.step x2
  have f3 : Few T3 3 := f2.step x3
  have f4 : Few T4 4 := f3.step x4
  have h0 := One.new w (Below.refl _ w)
  have o1 : x1.ok := ⟨by decide, by decide, by decide⟩
  have o2 : x2.ok := ⟨by decide, by decide, by decide⟩
  have o3 : x3.ok := ⟨by decide, by decide, by decide⟩
  have o4 : x4.ok := ⟨by decide, by decide, by decide⟩
  have s0 : none0.size ≤ maxLen := small _ (Nat.zero_le _)
  have d1 := h0.step (few0.mono (by omega)) x1 o1
  rw [k1] at d1
  have D2 := hide fun W (r : One w w.heap.size T1 W) => r.step (f1.mono (by omega)) x2 o2
  have D3 := hide fun W (r : One w w.heap.size T2 W) => r.step (f2.mono (by omega)) x3 o3
  have D4 := hide fun W (r : One w w.heap.size T3 W) => r.step (f3.mono (by omega)) x4 o4
  have D5 := hide fun W (r : One w w.heap.size T4 W) => r.read (f4.mono (by omega)) 1 sB (small _ (Nat.le_refl _)) 1
  have D6 := hide fun W (r : One w w.heap.size T4 W) => r.same (f4.mono (by omega)) 1 sB 1 sB
  have D7 := hide fun W (r : One w w.heap.size T4 W) => r.list (f4.mono (by omega)) 0
  have D8 := hide fun W => Check_any x0 s0 s0 s0 W
  rw [k2] at D2
  rw [k3] at D3
  rw [k4] at D4
  rw [k5, k6, k7] at D5
  rw [k8] at D6
  rw [k9] at D7
  rw [k10] at D8
  have e1 : step St.empty x1 = T1 := rfl
  have e2 : step T1 x2 = T2 := rfl
  have e3 : step T2 x3 = T3 := rfl
  have e4 : step T3 x4 = T4 := rfl
  rw [e1] at d1
  rw [e2] at D2
  rw [e3] at D3
  rw [e4] at D4
  simp only [stpA, x1, x2, x3, x4, x0, sA, sB, sX, none0] at d1 D2 D3 D4 D5 D6 D7 D8
  clear h0 f1 f2 f3 f4 s0 e1 e2 e3 e4 o1 o2 o3 o4
  go_enter Try.func21, Try.ntmps21
  go_wp2_with fail
  refine (New_any w).mono ?_
  rintro e w0 ⟨rfl, e9⟩
  rw [e9]
  clear e9 w0
  go_wp2_with fail
  refine d1.mono ?_
  rintro e w1 ⟨rfl, H1⟩
  have d2 := unhide D2 w1 H1
  clear d1 H1
  go_wp2_with fail
  refine d2.mono ?_
  rintro e w2 ⟨rfl, H2⟩
  have d3 := unhide D3 w2 H2
  clear d2 H2
  go_wp2_with fail
  refine d3.mono ?_
  rintro e w3 ⟨rfl, H3⟩
  have d4 := unhide D4 w3 H3
  clear d3 H3
  go_wp2_with fail
  refine d4.mono ?_
  rintro e w4 ⟨rfl, H4⟩
  have d5 := unhide D5 w4 H4
  clear d4 H4
  go_wp2_with fail
  refine d5.mono ?_
  rintro e w5 ⟨rfl, H5, _⟩
  have d6 := unhide D6 w5 H5
  clear d5 H5
  go_wp2_with fail
  refine d6.mono ?_
  rintro e w6 ⟨rfl, H6, _⟩
  have d7 := unhide D7 w6 H6
  clear d6 H6
  go_wp2_with fail
  refine d7.mono ?_
  rintro e w7 ⟨v, rfl, ho, H7, _⟩
  have hv : v = .slice none 0 0 ∨ ∃ g c, v = .slice (some ⟨g, 0, none⟩) 0 c := by
    rcases names_cell (l := []) ho with ⟨h, _⟩ | ⟨g, c, h, _, _⟩
    · exact .inl h
    · exact .inr ⟨g, c, h⟩
  have d8 := unhide D8 w7
  have HB := hide H7.bel
  clear d7 H7 ho
  rcases hv with rfl | ⟨g, c, rfl⟩
  · go_wp2_with fail
    refine d8.mono ?_
    rintro e w8 ⟨rfl, b8⟩
    have HB8 := hide ((unhide HB).trans (b8.mono (unhide HB).size))
    clear b8 d8
    go_wp2
    go_ret
    exact ⟨rfl, unhide HB8⟩
  · go_wp2_with fail
    refine d8.mono ?_
    rintro e w8 ⟨rfl, b8⟩
    have HB8 := hide ((unhide HB).trans (b8.mono (unhide HB).size))
    clear b8 d8
    go_wp2
    go_ret
    exact ⟨rfl, unhide HB8⟩
end Idl
end Go.Proofs.Ytmhbphmdfnlmkaa
