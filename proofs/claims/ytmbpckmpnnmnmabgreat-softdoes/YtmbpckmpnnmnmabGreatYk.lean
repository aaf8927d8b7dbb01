/-
  The walks of slices.Equal over inodes, and of package cache: Dirty.
-/
import Derived.Test.YtmbpckmpnnmnmabGreatZz
import Derived.Test.YtmbpckmpnnmnmabGreatYe
import Derived.Test.YtmbpckmpnnmnmabGreatYj
namespace Go.Proofs.YtmbpckmpnnmnmabGreat
open Go.RowKit
theorem run_exec_neql {P : Program} {o : Oper} {ρ : Operand → Value} (ty tz : TypeId) (x y : Operand) (ho : o.op = .binOp .neq ty x y tz) (cs ds : Array Value) (hx : ρ x = .agg cs) (hy : ρ y = .agg ds) (v : Bool)
    (hm : P.eqGuardType P.depth ty = false) (hq : ∀ w, (binOp .neq ty (.agg cs) (.agg ds)).run P w = .ok (.bool v) w) (w : World) : (execOp ρ o).run P w = .ok (.value (.bool v)) w := by
  unfold execOp
  rw [ho]
  go_simp
section
variable {cs ds : Array Value} {d : Nat}
end
end Go.Proofs.YtmbpckmpnnmnmabGreat
namespace Go.Proofs.YtmbpckmpnnmnmabGreat
open Go.RowKit
theorem zero_kinds : Kinds zeroCells := .of (size_newTo 0) (by kernel_rfl)
theorem zero_check : (imgOf zeroCells).check = 12 := by kernel_rfl
end Go.Proofs.YtmbpckmpnnmnmabGreat
namespace Go.Proofs.YtmbpckmpnnmnmabGreat
open Go.RowKit
open Idl (Stp chk stpA strs belowD one_new one_str)
namespace Sft
theorem names_cell {w : World} {base : Nat} {v : Value} {l : List ByteArray} (h : w.ownsRow base 9 1 v l.length (strs l)) :
    (v = .slice none 0 0 ∧ l = []) ∨ ∃ g c, v = .slice (some ⟨g, 0, none⟩) l.length c ∧ g < w.heap.size ∧ ∀ i (hi : i < l.length), w.cell? ⟨g, i, none⟩ = some (.string l[i]) := by
  rcases h.2 with ⟨h1, h2⟩ | ⟨g, cap, cur, h1, _, h3, h4, h5, h6, h7⟩
  · exact .inl ⟨h1, List.eq_nil_of_length_eq_zero h2⟩
  · refine .inr ⟨g, cap, h1, (Array.getElem?_eq_some_iff.1 h3).1, fun i hi => ?_⟩
    rw [cell_of_row w g _ _ _ _ h3]
    have : (strs l)[i]? = some (.string l[i]) := by simp [strs, hi]
    rw [← h7, List.getElem?_take] at this
    split at this
    · simpa using this
    · cases this
set_option maxHeartbeats 1000000 in
set_option maxRecDepth 100000 in
theorem SameTexts_any {w : World} {b1 b2 : Nat} {v1 v2 : Value} {l : List ByteArray} (h1 : w.ownsRow b1 9 1 v1 l.length (strs l)) (h2 : w.ownsRow b2 9 1 v2 l.length (strs l)) (hl : l.length ≤ 1000) :
    Calls Tryz.prog 19 #[v1, v2] w fun e w' => e = .returned (.bool true) ∧ Below w.heap.size w w' := by
  rcases names_cell h1 with ⟨rfl, rfl⟩ | ⟨g1, c1, rfl, gl1, k1⟩
  · have e2 : v2 = .slice none 0 0 ∨ ∃ g c, v2 = .slice (some ⟨g, 0, none⟩) 0 c := by
      rcases names_cell h2 with ⟨h, _⟩ | ⟨g, c, h, _, _⟩
      · exact .inl h
      · exact .inr ⟨g, c, h⟩
    clear h1 h2
    rcases e2 with rfl | ⟨g, c, rfl⟩
    · go_enter Tryz.func19, Tryz.ntmps19
      go_wp2
      go_loopw [5] (fun i wr => i = .int .i64 0 ∧ wr = w) (fun _ _ => 0)
      case atStart => exact ⟨rfl, rfl⟩
      case round =>
        obtain ⟨rfl, rfl⟩ := hrel
        go_wp2
        go_ret
        exact ⟨rfl, Below.refl _ _⟩
    · go_enter Tryz.func19, Tryz.ntmps19
      go_wp2
      go_loopw [5] (fun i wr => i = .int .i64 0 ∧ wr = w) (fun _ _ => 0)
      case atStart => exact ⟨rfl, rfl⟩
      case round =>
        obtain ⟨rfl, rfl⟩ := hrel
        go_wp2
        go_ret
        exact ⟨rfl, Below.refl _ _⟩
  · rcases names_cell h2 with ⟨rfl, rfl⟩ | ⟨g2, c2, rfl, gl2, k2⟩
    · clear h1 h2
      go_enter Tryz.func19, Tryz.ntmps19
      go_wp2
      go_loopw [5] (fun i wr => i = .int .i64 0 ∧ wr = w) (fun _ _ => 0)
      case atStart => exact ⟨rfl, rfl⟩
      case round =>
        obtain ⟨rfl, rfl⟩ := hrel
        go_wp2
        go_ret
        exact ⟨rfl, Below.refl _ _⟩
    · have K1 := hide k1
      have K2 := hide k2
      clear h1 h2 k1 k2
      go_enter Tryz.func19, Tryz.ntmps19
      go_wp2
      go_loopw [5] (fun i wr => ∃ k q : Nat, k ≤ l.length ∧ i = .int .i64 k ∧ wr = w.drewN q) (fun i _ => l.length - (intOf i).toNat)
      case atStart => exact ⟨0, 0, Nat.zero_le _, rfl, rfl⟩
      case round =>
        obtain ⟨k, q, hk, rfl, rfl⟩ := hrel
        by_cases hlt : k < l.length
        · have d1 := unhide K1 k hlt
          have d2 := unhide K2 k hlt
          generalize l[k] = nm at d1 d2
          have hz : (k : Int) < (l.length : Int) := by omega
          have hq : (nm.toList == nm.toList) = true := by simp
          go_wp2_with fail
          go_quiet (fail)
          go_wp2
          go_roundw
          case rel => exact ⟨k + 1, q + nq, by omega, by go_num, rfl⟩
          case measure => simp [intOf]; omega
        · go_wp2
          go_ret
          exact ⟨rfl, belowD (Below.refl _ _)⟩
end Sft
/-- files made behind w -/
structure Fo (w : World) (bf bc : Nat) (m k : Img) (last : Int) (W : World) : Prop where
  it : ∃ cs ds, Fl W bf bc cs ds m k last
  bel : Below w.heap.size w W
  f0 : w.heap.size ≤ bf
  c0 : w.heap.size ≤ bc
section
variable {w W W' : World} {bf bc : Nat} {m k : Img} {last : Int}
theorem Fo.call (h : Fo w bf bc m k last W) (hb : Below W.heap.size W W') : Fo w bf bc m k last W' := by
  obtain ⟨cs, ds, f⟩ := h.it
  exact ⟨⟨cs, ds, f.below hb⟩, h.bel.trans (hb.mono h.bel.size), h.f0, h.c0⟩
theorem Fo.new (w : World) {W : World} (hb : Below w.heap.size w W) : Calls Tryz.prog 12 #[] W fun e w' => ∃ bf bc, e = .returned (.pointer (some ⟨bf, 0, none⟩)) ∧ W.heap.size ≤ bf ∧ W.heap.size ≤ bc ∧ Fo w bf bc blankI blankI 0 w' ∧ Below W.heap.size W w' := by
  refine (sNew_any W).mono ?_
  rintro e w' ⟨⟨bf, bc, rfl, h1, h2, f⟩, b⟩
  exact ⟨bf, bc, rfl, h1, h2, ⟨⟨_, _, f⟩, hb.trans (b.mono hb.size), Nat.le_trans hb.size h1, Nat.le_trans hb.size h2⟩, b⟩
theorem Fo.step (h : Fo w bf bc m k last W) (hG : Img.Good m last) (hla : last < 4611686018427387904) (x : Stp) (hn : x.name.size ≤ maxLen) (ht : x.to.size ≤ maxLen) (hx : x.text.size ≤ maxLen) :
    Calls Tryz.prog 30 #[.pointer (some ⟨bf, 0, none⟩), .agg (stpA x)] W fun e w' => e = .returned (.int .i64 (Img.scode m k x)) ∧ Fo w bf bc (Img.sstep m k last x) k (Img.slast m k last x) w' ∧ Idl.Chg (fun i => i = bf ∨ i = bc) W w' := by
  obtain ⟨cs, ds, f⟩ := h.it
  refine (sDo_any f hG hla x hn ht hx).mono ?_
  rintro e w' ⟨rfl, d⟩
  obtain ⟨cs', f'⟩ := d.fl f.disk
  obtain ⟨_, hm, _⟩ := d
  have hb := hm.chg.below h.bel.size (fun i hi => by rcases hi with z | z; rw [z]; exact h.f0; rw [z]; exact h.c0)
  exact ⟨rfl, ⟨⟨cs', ds, f'⟩, h.bel.trans hb, h.f0, h.c0⟩, hm.chg⟩
theorem Fo.mut (h : Fo w bf bc m k last W) {cs ds es : Array Value} {k' : Img} (f : Fl W bf bc cs ds m k last) (hm : Mut W W' bc (cs ++ es) 57) (he : IsImg es k') : Fo w bf bc m k' last W' :=
  ⟨⟨cs, es, by rw [hm.old bf f.flt f.ne]; exact f.root, hm.row, f.now, he, f.ne⟩, h.bel.trans (hm.below _ h.c0 h.bel.size), h.f0, h.c0⟩
theorem Fo.write (h : Fo w bf bc m k last W) (b : Int) :
    Calls Tryz.prog 28 #[.pointer (some ⟨bc, 0, none⟩), .int .i64 b] W fun e w' => e = .returned (.bool (Img.inB b)) ∧ Fo w bf bc m (Img.write m k b) last w' ∧ ∃ c, Mut W w' bc c 57 := by
  obtain ⟨cs, ds, f⟩ := h.it
  refine (cWrite_any bc cs ds m k f.now f.disk b W f.row).mono ?_
  rintro e w' ⟨es, rfl, he, hm⟩
  exact ⟨rfl, h.mut f hm he, _, hm⟩
theorem Fo.sync (h : Fo w bf bc m k last W) :
    Calls Tryz.prog 29 #[.pointer (some ⟨bc, 0, none⟩)] W fun e w' => e = .returned (.int .i64 ((Img.syn m 8 k).1 : Nat)) ∧ Fo w bf bc m (Img.syn m 8 k).2 last w' ∧ ∃ c, Mut W w' bc c 57 := by
  obtain ⟨cs, ds, f⟩ := h.it
  refine (cSync_any bc cs ds m k f.now f.disk W f.row).mono ?_
  rintro e w' ⟨es, rfl, he, hm⟩
  exact ⟨rfl, h.mut f hm he, _, hm⟩
theorem Fo.read (h : Fo w bf bc m k last W) (hm : m.check = 0) (d : Int) (s : ByteArray) (hs : s.size ≤ maxLen) (p : Int) :
    Calls Tryz.prog 22 #[.pointer (some ⟨bf, 0, none⟩), .int .i64 d, .string s, .int .i64 p] W fun e w' => e = .returned (.tuple #[.string (Img.sreadT m d s p), .bool (Img.sreadB m d s p), .int .i64 (Img.sreadC m d s p)]) ∧ Fo w bf bc m k last w' ∧ Below W.heap.size W w' := by
  obtain ⟨cs, ds, f⟩ := h.it
  refine (sRead_any f hm d s hs p).mono ?_
  rintro e w' ⟨rfl, b⟩
  exact ⟨rfl, h.call b, b⟩
theorem Fo.same (h : Fo w bf bc m k last W) (d : Int) (s : ByteArray) (d2 : Int) (u : ByteArray) :
    Calls Tryz.prog 24 #[.pointer (some ⟨bf, 0, none⟩), .int .i64 d, .string s, .int .i64 d2, .string u] W fun e w' => e = .returned (.bool (Img.ssame m d s d2 u)) ∧ w' = W := by
  obtain ⟨cs, ds, f⟩ := h.it
  exact sSame_any f d s d2 u
theorem Fo.sure (h : Fo w bf bc m k last W) (d : Int) (s : ByteArray) :
    Calls Tryz.prog 26 #[.pointer (some ⟨bf, 0, none⟩), .int .i64 d, .string s] W fun e w' => e = .returned (.bool (Img.ssure m k d s)) ∧ Fo w bf bc m k last w' ∧ Below W.heap.size W w' := by
  obtain ⟨cs, ds, f⟩ := h.it
  refine (sSure_any f d s).mono ?_
  rintro e w' ⟨rfl, b⟩
  exact ⟨rfl, h.call b, b⟩
theorem Fo.list (h : Fo w bf bc m k last W) (hm : m.check = 0) (d : Int) :
    Calls Tryz.prog 20 #[.pointer (some ⟨bf, 0, none⟩), .int .i64 d] W fun e w' => ∃ v, e = .returned v ∧ w'.ownsRow W.heap.size 9 1 v (Img.snames m d).length (strs (Img.snames m d)) ∧ Fo w bf bc m k last w' ∧ Below W.heap.size W w' := by
  obtain ⟨cs, ds, f⟩ := h.it
  refine (sList_any f hm d).mono ?_
  rintro e w' ⟨v, rfl, ho, b⟩
  exact ⟨v, rfl, ho, h.call b, b⟩
theorem Fo.cells (h : Fo w bf bc m k last W) : W.cell? ⟨bf, 0, none⟩ = some (.pointer (some ⟨bc, 0, none⟩)) ∧ bf < W.heap.size ∧ bc < W.heap.size ∧ HasAt W bc 0 m ∧ HasAt W bc 94 k := by
  obtain ⟨cs, ds, f⟩ := h.it
  exact ⟨f.ptr, f.flt, f.clt, f.hasNow, f.hasDisk⟩
end
namespace Sft
def sA : ByteArray := ⟨#[97]⟩
def sB : ByteArray := ⟨#[98]⟩
def sX : ByteArray := ⟨#[120]⟩
def y1 : Stp := ⟨1, 0, 0, 0, sA, Idl.none0, Idl.none0⟩
def y2 : Stp := ⟨5, 0, 0, 0, sA, Idl.none0, sX⟩
def y3 : Stp := ⟨2, 0, 2, 0, sA, sB, Idl.none0⟩
def M1 : Img := Img.sstep blankI blankI 0 y1
def M2 : Img := Img.sstep M1 blankI 1 y2
def M3 : Img := Img.sstep M2 blankI 1 y3
theorem k1 : Img.scode blankI blankI y1 = 0 := by kernel_rfl
theorem k2 : Img.scode M1 blankI y2 = 0 := by kernel_rfl
theorem k3 : Img.scode M2 blankI y3 = 0 := by kernel_rfl
theorem l1 : Img.slast blankI blankI 0 y1 = 1 := by kernel_rfl
theorem l2 : Img.slast M1 blankI 1 y2 = 1 := by kernel_rfl
theorem l3 : Img.slast M2 blankI 1 y3 = 1 := by kernel_rfl
theorem k4 : Img.sreadC M3 2 sB 0 = 0 := by kernel_rfl
theorem k5 : Img.sreadB M3 2 sB 0 = true := by kernel_rfl
theorem k6 : Img.sreadT M3 2 sB 0 = sX := by kernel_rfl
theorem k7 : Img.ssame M3 0 sA 2 sB = true := by kernel_rfl
theorem k8 : Img.ssure M3 blankI 0 sA = false := by kernel_rfl
theorem k9 : Img.snames M3 2 = [sB] := by kernel_rfl
theorem k10 : M3.links 0 = 2 := by kernel_rfl
theorem blank_ex : blankI.exact = true := by kernel_rfl
theorem blank_dead : Img.anyB blankI.live 8 = false := by kernel_rfl
theorem good0 : Img.Good blankI 0 := ⟨Img.ex_iff.1 blank_ex, Int.le_refl _, fun n hn hl => by rw [Img.anyB_false.1 blank_dead n hn] at hl; cases hl⟩
theorem good1 : Img.Good M1 1 := by have := Img.good_step (disk := blankI) good0 y1; rw [l1] at this; exact this
theorem good2 : Img.Good M2 1 := by have := Img.good_step (disk := blankI) good1 y2; rw [l2] at this; exact this
theorem good3 : Img.Good M3 1 := by have := Img.good_step (disk := blankI) good2 y3; rw [l3] at this; exact this
theorem small (n : Nat) (h : n ≤ 1) : n ≤ maxLen := by unfold maxLen; omega
set_option maxHeartbeats 4000000 in
set_option maxRecDepth 100000 in
theorem begun_any (w : World) : Calls Tryz.prog 8 #[] w fun e w' => e = .returned (.bool true) ∧ Below w.heap.size w w' := by
  have bz := build_img
  have s0 : Idl.none0.size ≤ maxLen := small _ (Nat.zero_le _)
  have sa : sA.size ≤ maxLen := small _ (Nat.le_refl _)
  have sb : sB.size ≤ maxLen := small _ (Nat.le_refl _)
  have sx : sX.size ≤ maxLen := small _ (Nat.le_refl _)
  have D1 := hide fun bf bc W (r : Fo w bf bc blankI blankI 0 W) => r.step good0 (by omega) y1 sa s0 s0
  have D2 := hide fun bf bc W (r : Fo w bf bc M1 blankI 1 W) => r.step good1 (by omega) y2 sa s0 sx
  have D3 := hide fun bf bc W (r : Fo w bf bc M2 blankI 1 W) => r.step good2 (by omega) y3 sa sb s0
  have D4 := hide fun bf bc W (r : Fo w bf bc M3 blankI 1 W) => r.read good3.ex.ok 2 sB sb 0
  have D5 := hide fun bf bc W (r : Fo w bf bc M3 blankI 1 W) => r.same 0 sA 2 sB
  have D6 := hide fun bf bc W (r : Fo w bf bc M3 blankI 1 W) => r.sure 0 sA
  have D7 := hide fun bf bc W (r : Fo w bf bc M3 blankI 1 W) => r.list good3.ex.ok 2
  rw [k1, l1, show Img.sstep blankI blankI 0 y1 = M1 from rfl] at D1
  rw [k2, l2, show Img.sstep M1 blankI 1 y2 = M2 from rfl] at D2
  rw [k3, l3, show Img.sstep M2 blankI 1 y3 = M3 from rfl] at D3
  rw [k4, k5, k6] at D4
  rw [k7] at D5
  rw [k8] at D6
  rw [k9] at D7
  have K10 := hide k10
  simp only [stpA, y1, y2, y3, sA, sB, sX, Idl.none0] at D1 D2 D3 D4 D5 D6 D7
  clear s0 sa sb sx
  generalize M3 = m3 at D3 D4 D5 D6 D7 K10
  generalize M2 = m2 at D2 D3
  generalize M1 = m1 at D1 D2
  go_enter Tryz.func8, Tryz.ntmps8
  go_wp2_with fail
  refine (Fo.new w (Below.refl _ w)).mono ?_
  rintro e w1 ⟨bf, bc, rfl, _, _, h1, _⟩
  have H1 := hide h1
  clear h1
  go_wp2_with fail
  refine (sOf_nil zeroCells _ zero_kinds.isImg (by rw [zero_check]; simp) w1).mono ?_
  rintro e w2 ⟨rfl, b2⟩
  have H2 := hide ((unhide H1).call b2)
  have d1 := unhide D1 bf bc w2 (unhide H2)
  clear b2 H1
  go_wp2_with fail
  refine d1.mono ?_
  rintro e w3 ⟨rfl, h3, _⟩
  have d2 := unhide D2 bf bc w3 h3
  clear h3 d1 H2
  go_wp2_with fail
  refine d2.mono ?_
  rintro e w4 ⟨rfl, h4, _⟩
  have d3 := unhide D3 bf bc w4 h4
  clear h4 d2
  go_wp2_with fail
  refine d3.mono ?_
  rintro e w5 ⟨rfl, h5, _⟩
  have d4 := unhide D4 bf bc w5 h5
  clear h5 d3
  go_wp2_with fail
  refine d4.mono ?_
  rintro e w6 ⟨rfl, h6, _⟩
  have H6 := hide h6
  have d5 := unhide D5 bf bc w6 h6
  have d6 := unhide D6 bf bc w6 h6
  clear h6 d4
  go_wp2_with fail
  refine d5.mono ?_
  rintro e wq ⟨rfl, e9⟩
  rw [e9]
  clear e9 wq d5
  go_wp2_with fail
  refine d6.mono ?_
  rintro e w7 ⟨rfl, h7, _⟩
  have d7 := unhide D7 bf bc w7 h7
  clear h7 d6
  go_wp2_with fail
  refine d7.mono ?_
  rintro e w8 ⟨v, rfl, ho, h8, b8⟩
  have ho2 : (w8.alloc (.cells #[.string ⟨#[98]⟩] 9)).ownsRow 0 9 1 (.slice (some ⟨w8.heap.size, 0, none⟩) 1 1) ([⟨#[98]⟩] : List ByteArray).length (strs [⟨#[98]⟩]) := ⟨rfl, .inr ⟨w8.heap.size, 1, _, rfl, Nat.zero_le _, heap_alloc_last _ _, Nat.le_refl _, small _ (Nat.le_refl _), rfl, rfl⟩⟩
  have ST := hide (SameTexts_any (World.ownsRow.alloc ho (.cells #[.string ⟨#[98]⟩] 9)) ho2 (by simp))
  have H8 := hide (h8.call ((Below.refl _ _).alloc (Nat.le_refl _) (.cells #[.string ⟨#[98]⟩] 9)))
  clear ho ho2 h8 b8 d7
  go_wp2_with fail
  refine (unhide ST).mono ?_
  rintro e w9 ⟨rfl, b9⟩
  have H9 := hide ((unhide H8).call b9)
  obtain ⟨c0, c1, c2, c3, _⟩ := (unhide H9).cells
  have c4 : w9.cell? ⟨bc, 2, none⟩ = some (.int .i64 2) := by
    have := c3.links 0 (by omega)
    rw [unhide K10] at this
    simpa using this
  clear b9 c3 H8
  go_wp2_with fail
  go_ret
  exact ⟨rfl, (unhide H9).bel⟩
end Sft
end Go.Proofs.YtmbpckmpnnmnmabGreat
namespace Go.Proofs.YtmbpckmpnnmnmabGreat
open Go.RowKit
set_option maxHeartbeats 400000 in
theorem rIsName_any (s : ByteArray) (hs : s.size ≤ maxLen) (w : World) :
    Calls Tryz.prog 45 #[.string s] w fun e w' => e = .returned (.bool (Img.isNmB s.toList)) ∧ w' = w := by
  unfold maxLen at hs
  by_cases h1 : s.size < 1
  · have e : Img.isNmB s.toList = false := by rw [isNmB_eq]; simp; omega
    rw [e]; clear e
    go_enter Tryz.func45, Tryz.ntmps45
    go_wp2
    go_ret
    exact ⟨rfl, rfl⟩
  by_cases h6 : 6 < s.size
  · have e : Img.isNmB s.toList = false := by rw [isNmB_eq]; simp; omega
    rw [e]; clear e
    go_enter Tryz.func45, Tryz.ntmps45
    go_wp2
    go_ret
    exact ⟨rfl, rfl⟩
  go_enter Tryz.func45, Tryz.ntmps45
  go_wp2
  go_loop [3] (fun i => ∃ k : Nat, k ≤ s.size ∧ i = .int .i64 k ∧ (s.toList.take k).all ltr = true) (fun i => s.size - (intOf i).toNat)
  case atStart => exact ⟨0, by omega, rfl, rfl⟩
  case round =>
    obtain ⟨k, hk, rfl, hall⟩ := hrel
    have H := hide hall
    clear hall
    by_cases hlt : k < s.size
    · by_cases hc : 97 ≤ (s[k].toNat : Int) ∧ (s[k].toNat : Int) ≤ 122
      · obtain ⟨c1, c2⟩ := hc
        go_wp2
        refine ⟨⟨k + 1, by omega, by go_num, ?_⟩, by simp [intOf]; omega⟩
        rw [all_take_snoc hlt, unhide H]
        simp [ltr]; omega
      · have e : Img.isNmB s.toList = false := nm_false_of hlt (by simp [ltr]; omega)
        have E := hide e
        clear e
        go_wp2
        all_goals first | (exfalso; omega) | (go_ret; exact ⟨ret_bool (unhide E).symm, rfl⟩)
    · go_wp2
      go_ret
      refine ⟨ret_bool ?_, rfl⟩
      have h2 := unhide H
      rw [List.take_of_length_le (by rw [len_toList]; omega)] at h2
      rw [isNmB_eq, h2]
      simp; omega
set_option maxHeartbeats 400000 in
theorem rSlotOf_in {ob : Nat} (b : Nat) (m : Img) (d : Nat) (hd : d < 3) (nm : ByteArray) (hne : nm.toList.isEmpty = false) (w : World) (hm : HasAt w b ob m) :
    Calls Tryz.prog 46 #[.pointer (some ⟨b, ob, none⟩), .int .i64 d, .string nm] w fun e w' => e = .returned (.int .i64 (m.find d nm.toList)) ∧ w' = w := by
  have hn := hm.name d
  have E : m.find d nm.toList = Img.firstI (fun s => (m.name d s).toList == nm.toList) 4 := rfl
  rw [E]
  clear E
  have t0 : decide ((d : Int) < 0) = false := by simp
  have t3 : decide (3 ≤ (d : Int)) = false := by simp; omega
  go_enter Tryz.func46, Tryz.ntmps46
  go_wp2_with fail
  go_loop [7] (fun i => ∃ s : Nat, s ≤ 4 ∧ i = .int .i64 s ∧ ∀ j, j < s → ((m.name d j).toList == nm.toList) = false) (fun i => 4 - (intOf i).toNat)
  case atStart => exact ⟨0, by omega, rfl, fun j hj => by omega⟩
  case round =>
    obtain ⟨s, hs, rfl, hall⟩ := hrel
    have H := hide hall
    clear hall
    by_cases hlt : s < 4
    · have t4 : decide ((s : Int) < 4) = true := by simp; omega
      have h1 := hn s hd hlt
      clear hn
      cases hq : ((m.name d s).toList == nm.toList)
      · go_wp2_with fail
        refine ⟨⟨s + 1, by omega, by go_num, fun j hj => ?_⟩, by simp [intOf]; omega⟩
        by_cases e : j = s
        · subst e; exact hq
        · exact unhide H j (by omega)
      · have E := hide (Img.firstI_at (p := fun s => (m.name d s).toList == nm.toList) hq (unhide H) hlt)
        go_wp2_with fail
        go_ret
        exact ⟨ret_int (unhide E).symm, rfl⟩
    · have t4 : decide ((s : Int) < 4) = false := by simp; omega
      have E := hide (Img.firstI_none (p := fun s => (m.name d s).toList == nm.toList) (n := 4) fun j hj => unhide H j (by omega))
      go_wp2_with fail
      go_ret
      exact ⟨ret_int (unhide E).symm, rfl⟩
end Go.Proofs.YtmbpckmpnnmnmabGreat
namespace Go.Proofs.YtmbpckmpnnmnmabGreat
open Go.RowKit
def FaultIs (m : Img) (e : Ending) : Prop := ∃ c : Int, e = .returned (.int .i64 c) ∧ (c = 0 ↔ m.check = 0)
theorem faultNo {m : Img} {c : Int} (h : m.check ≠ 0) (hc : c ≠ 0) : FaultIs m (.returned (.int .i64 c)) := ⟨c, rfl, ⟨fun e => absurd e hc, fun e => absurd e h⟩⟩
theorem faultOk {m : Img} (h : m.check = 0) : FaultIs m (.returned (.int .i64 0)) := ⟨0, rfl, ⟨fun _ => h, fun _ => rfl⟩⟩
namespace Img
variable {m : Img}
theorem bad_slot {d s : Nat} (hd : d < 3) (hs : s < 4) (h : m.checkSlot d s ≠ 0) : m.check ≠ 0 := fun e => h ((well_iff.1 e).slot d s hd hs)
theorem slot_12 {d s : Nat} (h : m.named d s = false) (h1 : ¬ (m.ino d s = 0 ∧ m.est d s = 0)) : m.checkSlot d s ≠ 0 := by
  unfold checkSlot; rw [if_pos h, if_neg h1]; decide
theorem slot_0 {d s : Nat} (h : m.named d s = false) (h1 : m.ino d s = 0) (h2 : m.est d s = 0) : m.checkSlot d s = 0 := by
  unfold checkSlot; rw [if_pos h, if_pos ⟨h1, h2⟩]
/-- no two parts lead to the same data -/
def TwoOk (m : Img) (n k p q : Nat) : Prop := m.live n = true → m.live k = true → (n ≠ k ∨ p ≠ q) → 0 ≤ m.part n p → m.part n p ≠ m.part k q
def StampOk (m : Img) (n k : Nat) : Prop := m.live n = true → m.live k = true → n ≠ k → m.stamp n ≠ m.stamp k
structure PairOk (m : Img) (n k : Nat) : Prop where
  stamp : StampOk m n k
  parts : ∀ p, p < 2 → ∀ q, q < 2 → TwoOk m n k p q
theorem pair_dead {n k : Nat} (h : m.live n = false ∨ m.live k = false) : PairOk m n k := by
  refine ⟨fun a b _ => ?_, fun _ _ _ _ a b => ?_⟩ <;> rcases h with h | h
  · rw [h] at a; cases a
  · rw [h] at b; cases b
  · rw [h] at a; cases a
  · rw [h] at b; cases b
theorem bad_stamp {n k : Nat} (hn : n < 8) (hk : k < 8) (l1 : m.live n = true) (l2 : m.live k = true) (hne : n ≠ k) (he : m.stamp n = m.stamp k) : m.check ≠ 0 :=
  fun e => stamps_ne (well_iff.1 e).stamps hn hk hne l1 l2 he
theorem bad_part {n k p q : Nat} (hn : n < 8) (hk : k < 8) (hp : p < 2) (hq : q < 2) (l1 : m.live n = true) (l2 : m.live k = true) (hne : n ≠ k ∨ p ≠ q) (h0 : 0 ≤ m.part n p) (he : m.part n p = m.part k q) : m.check ≠ 0 := by
  intro e
  have h1 := checkPart_iff.1 ((inode_parts_ok e hn l1).2.2 p hp)
  have hd : isD (m.part n p) = true := by
    rcases h1 with z | z
    · omega
    · exact z.1
  have e1 : m.pa (2 * n + p) = m.part n p := pa_live hp l1
  have e2 : m.pa (2 * k + q) = m.part k q := pa_live hq l2
  exact datas_ne (well_iff.1 e).datas (t := 2 * n + p) (u := 2 * k + q) (by omega) (by omega) (by omega) (by rw [e1]; exact hd) (by rw [e1, e2, he])
theorem fault_end (h1 : ∀ d, d < 3 → ∀ s, s < 4 → m.checkSlot d s = 0) (h2 : ∀ n, n < 8 → m.checkInode n = 0) (h3 : ∀ n, n < 8 → ∀ k, k < 8 → PairOk m n k) : m.check = 0 := by
  refine well_iff.2 ⟨fun d s hd hs => h1 d hd s hs, h2, ?_, ?_⟩
  · rw [stamps_iff]
    intro n k hn hk l1 l2
    exact (h3 n hn k (by omega)).stamp l1 l2 (by omega)
  · rw [datas_iff]
    intro t u ht hu l1 he
    have lt : m.live (t / 2) = true := by
      cases hl : m.live (t / 2)
      · rw [pa_of_dead hl] at l1; simp [isD] at l1
      · rfl
    have lu : m.live (u / 2) = true := by
      cases hl : m.live (u / 2)
      · rw [← he, pa_of_dead hl] at l1; simp [isD] at l1
      · rfl
    rw [pa_of_live lt] at l1 he
    rw [pa_of_live lu] at he
    have h0 : 0 ≤ m.part (t / 2) (t % 2) ∧ m.part (t / 2) (t % 2) < 9 := by simpa [isD] using l1
    exact (h3 (t / 2) (by omega) (u / 2) (by omega)).parts (t % 2) (by omega) (u % 2) (by omega) lt lu (by omega) h0.1 he.symm
theorem ino_12 {n : Nat} (hn : n < 8) (hl : m.live n = false) (h : inoB (m.inode n) Ino.none = false) : m.check ≠ 0 := fun e => by
  rw [inode_free_ok e hn hl] at h; cases h
theorem ino_none {n : Nat} (h : inoB (m.inode n) Ino.none = true) : m.inode n = Ino.none := by
  unfold inoB at h
  simp only [Bool.and_eq_true, beq_iff_eq] at h
  obtain ⟨⟨⟨⟨h1, h2⟩, h3⟩, h4⟩, h5⟩ := h
  have e : ∀ i : Ino, i.live = Ino.none.live → i.stamp = Ino.none.stamp → i.links = Ino.none.links → i.p0 = Ino.none.p0 → i.p1 = Ino.none.p1 → i = Ino.none := fun i a b c d f => by cases i; simp_all
  exact e _ h1 h2 h3 h4 h5
end Img
structure Bx5 (w X : World) (g : Nat) (m : Img) (n : Nat) : Prop where
  below : Below w.heap.size w X
  row : X.heap[g]? = some (.cells #[.bool (m.live n), .int .i64 (m.stamp n), .int .i64 (m.links n), .int .i64 (m.part n 0), .int .i64 (m.part n 1)] 24)
theorem Bx5.mk' {w wr : World} (h : Below w.heap.size w wr) (m : Img) (n : Nat) : Bx5 w (wr.alloc (.cells #[.bool (m.live n), .int .i64 (m.stamp n), .int .i64 (m.links n), .int .i64 (m.part n 0), .int .i64 (m.part n 1)] 24)) wr.heap.size m n := ⟨h.alloc h.size _, heap_alloc_last _ _⟩
theorem Bx5.draw {w X : World} {g : Nat} {m : Img} {n : Nat} (h : Bx5 w X g m n) (q : Nat) : Bx5 w (X.drewN q) g m n := ⟨belowN h.below, h.row⟩
structure Cells5 (X : World) (g : Nat) (m : Img) (n : Nat) : Prop where
  c0 : X.cell? ⟨g, 0, none⟩ = some (.bool (m.live n))
  c1 : X.cell? ⟨g, 1, none⟩ = some (.int .i64 (m.stamp n))
  c2 : X.cell? ⟨g, 2, none⟩ = some (.int .i64 (m.links n))
  c3 : X.cell? ⟨g, 3, none⟩ = some (.int .i64 (m.part n 0))
  c4 : X.cell? ⟨g, 4, none⟩ = some (.int .i64 (m.part n 1))
  part : ∀ p, p < 2 → X.cell? ⟨g, 3 + p, none⟩ = some (.int .i64 (m.part n p))
theorem Bx5.cells {w X : World} {g : Nat} {m : Img} {n : Nat} (h : Bx5 w X g m n) : Cells5 X g m n := by
  have r := h.row
  refine ⟨by rw [cell_of_row _ _ _ _ _ _ r]; rfl, by rw [cell_of_row _ _ _ _ _ _ r]; rfl, by rw [cell_of_row _ _ _ _ _ _ r]; rfl, by rw [cell_of_row _ _ _ _ _ _ r]; rfl, by rw [cell_of_row _ _ _ _ _ _ r]; rfl, fun p hp => ?_⟩
  rw [cell_of_row _ _ _ _ _ _ r]
  match p, hp with
  | 0, _ => rfl
  | 1, _ => rfl
theorem Bx5.lt {w X : World} {g : Nat} {m : Img} {n : Nat} (h : Bx5 w X g m n) : g < X.heap.size := (Array.getElem?_eq_some_iff.1 h.row).1
theorem all_succ' {p : Nat → Prop} {n : Nat} (h : ∀ j, j < n → p j) (hn : p n) : ∀ j, j < n + 1 → p j := fun j hj => by
  by_cases e : j = n
  · subst e; exact hn
  · exact h j (by omega)
set_option maxRecDepth 100000 in
set_option maxHeartbeats 8000000 in
theorem fault_any (b : Nat) (m : Img) (w : World) (hm : HasImg w b m) :
    Calls Tryz.prog 15 #[.pointer (some ⟨b, 0, none⟩)] w fun e w' => FaultIs m e ∧ Below w.heap.size w w' := by
  have hlb := hm.lt
  have HM := hide hm
  clear hm
  go_enter Tryz.func15, Tryz.ntmps15
  go_wp2_with fail
  go_loopw [3] (fun i wr => ∃ d : Nat, d ≤ 3 ∧ i = .int .i64 d ∧ Hid (Below w.heap.size w wr) ∧ Hid (∀ j, j < d → ∀ s, s < 4 → m.checkSlot j s = 0)) (fun i _ => 3 - (intOf i).toNat)
  case atStart => exact ⟨0, by omega, rfl, hide (Below.refl _ _), hide fun j hj => by omega⟩
  case round =>
    obtain ⟨d, hd, rfl, HB, HD⟩ := hrel
    by_cases hld : d < 3
    · have t3 : decide ((d : Int) < 3) = true := by simp; omega
      have ND := hide (fun (h : ∀ s, s < 4 → m.checkSlot d s = 0) => all_succ' (unhide HD) h)
      clear HD
      go_wp2_with fail
      go_loopw [4] (fun i wr => ∃ s : Nat, s ≤ 4 ∧ i = .int .i64 s ∧ Hid (Below w.heap.size w wr) ∧ Hid (∀ j, j < s → m.checkSlot d j = 0)) (fun i _ => 4 - (intOf i).toNat)
      case atStart => exact ⟨0, by omega, rfl, HB, hide fun j hj => by omega⟩
      case round =>
        as_aux_lemma =>
          clear HB
          obtain ⟨s, hs, rfl, HB, HS⟩ := hrel
          by_cases hls : s < 4
          · have t4 : decide ((s : Int) < 4) = true := by simp; omega
            have NS := hide (fun (h : m.checkSlot d s = 0) => all_succ' (unhide HS) h)
            clear HS
            have hM := (unhide HM).below (unhide HB) hlb
            have lb := hM.lt
            have n1 := hM.name d s hld hls
            have i1 := hM.ino d s hld hls
            have s1 := hM.est d s hld hls
            have hsm := hM.small d s
            have BD := hide (fun (h : m.checkSlot d s ≠ 0) => Img.bad_slot hld hls h)
            have HA := hide ((unhide HB).alloc (unhide HB).size (.cells #[.string (m.name d s), .int .i64 (m.ino d s), .int .i64 (m.est d s)] 27))
            have HM2 := hide ((unhide HM).below (unhide HA) hlb)
            have LV := hide (fun (j : Nat) (hj : j < 8) => hM.live j hj)
            have ST := hide (fun (j : Nat) (hj : j < 8) => hM.stamp j hj)
            clear hM
            cases hem : (m.name d s).toList.isEmpty
            · have hnm : m.named d s = true := by unfold Img.named; rw [hem]; rfl
              have OK := hide (Img.slot_ok hnm)
              clear hnm
              go_wp2_with fail
              refine (rIsName_any _ hsm _).mono ?_
              cases hq : Img.isNmB (m.name d s).toList
              · have Z := hide (unhide BD (fun z => by have := ((unhide OK).1 z).nm; rw [hq] at this; cases this))
                rintro e wz ⟨rfl, ez⟩
                rw [ez]
                clear ez wz
                go_wp2_with fail
                go_ret
                exact ⟨faultNo (unhide Z) (by decide), unhide HA⟩
              · rintro e wz ⟨rfl, ez⟩
                rw [ez]
                clear ez wz
                go_wp2_with fail
                refine (rSlotOf_in b m d hld _ hem _ (unhide HM2).at).mono ?_
                rintro e wz ⟨rfl, ez⟩
                rw [ez]
                clear ez wz
                have FI := hide (show (s : Int) ≤ m.find d (m.name d s).toList ∨ m.find d (m.name d s).toList < (s : Int) by omega)
                generalize hfi : m.find d (m.name d s).toList = fi at FI
                have HFI := hide hfi
                clear hfi
                by_cases hf : fi < (s : Int)
                · have tf : decide (fi < (s : Int)) = true := by simpa using hf
                  have Z := hide (unhide BD (fun z => by have := ((unhide OK).1 z).first; rw [unhide HFI] at this; omega))
                  clear hf
                  go_wp2_with fail
                  go_ret
                  exact ⟨faultNo (unhide Z) (by decide), unhide HA⟩
                · have tf : decide (fi < (s : Int)) = false := by simpa using hf
                  have F1 := hide (show (s : Int) ≤ m.find d (m.name d s).toList by rw [unhide HFI]; omega)
                  clear hf
                  by_cases hlo : m.ino d s < 0
                  · have u1 : decide (m.ino d s < 0) = true := by simpa using hlo
                    have Z := hide (unhide BD (fun z => by have := ((unhide OK).1 z).lo; omega))
                    clear hlo
                    go_wp2_with fail
                    go_ret
                    exact ⟨faultNo (unhide Z) (by decide), unhide HA⟩
                  · have u1 : decide (m.ino d s < 0) = false := by simpa using hlo
                    by_cases hhi : 8 ≤ m.ino d s
                    · have u2 : decide (8 ≤ m.ino d s) = true := by simpa using hhi
                      have u3 : decide (m.ino d s ≥ 8) = true := by simpa using hhi
                      have Z := hide (unhide BD (fun z => by have := ((unhide OK).1 z).hi; omega))
                      clear hhi hlo
                      go_wp2_with fail
                      go_ret
                      exact ⟨faultNo (unhide Z) (by decide), unhide HA⟩
                    · have u2 : decide (8 ≤ m.ino d s) = false := by simpa using hhi
                      have u3 : decide (m.ino d s ≥ 8) = false := by simpa using hhi
                      obtain ⟨ii, hii⟩ := Int.eq_ofNat_of_zero_le (show 0 ≤ m.ino d s by omega)
                      have hi8 : ii < 8 := by omega
                      have l1 := unhide LV ii hi8
                      have l2 := unhide ST ii hi8
                      have II := hide hii
                      rw [hii] at i1 u1 u2 u3
                      clear hlo hhi LV ST
                      have BOX : (.cells #[.string (m.name d s), .int .i64 (m.ino d s), .int .i64 (m.est d s)] 27 : Obj) = .cells #[.string (m.name d s), .int .i64 (ii : Int), .int .i64 (m.est d s)] 27 := by rw [hii]
                      rw [BOX] at HA
                      rw [BOX]
                      rw [hii]
                      clear hii BOX
                      cases hl : m.live ii
                      · rw [hl] at l1
                        have Z := hide (unhide BD (fun z => by have := ((unhide OK).1 z).live; rw [unhide II, Int.toNat_natCast, hl] at this; cases this))
                        go_wp2_with fail
                        go_quiet (fail)
                        go_wp2_with fail
                        go_ret
                        exact ⟨faultNo (unhide Z) (by decide), by first | exact belowN (unhide HA) | exact (unhide HA).drew⟩
                      · rw [hl] at l1
                        by_cases hst : m.stamp ii = m.est d s
                        · have Z := hide (unhide NS ((unhide OK).2 ⟨hq, unhide F1, by have := unhide II; omega, by have := unhide II; omega, by rw [unhide II, Int.toNat_natCast]; exact hl, by rw [unhide II, Int.toNat_natCast]; exact hst⟩))
                          rw [hst] at l2
                          clear hst
                          go_wp2_with fail
                          go_quiet (fail)
                          go_wp2_with fail
                          go_roundw
                          case rel => exact ⟨s + 1, by omega, by go_num, by first | exact hide (belowN (unhide HA)) | exact hide (unhide HA).drew, Z⟩
                          case measure => simp [intOf]; omega
                        · have h3 : (m.stamp ii == m.est d s) = false := by simpa using hst
                          have h4 : (m.stamp ii != m.est d s) = true := by simpa using hst
                          have h5 : decide (m.stamp ii = m.est d s) = false := by simpa using hst
                          have Z := hide (unhide BD (fun z => by have := ((unhide OK).1 z).stamp; rw [unhide II, Int.toNat_natCast] at this; exact hst this))
                          go_wp2_with fail
                          go_quiet (fail)
                          go_wp2_with fail
                          go_ret
                          exact ⟨faultNo (unhide Z) (by decide), by first | exact belowN (unhide HA) | exact (unhide HA).drew⟩
            · have hnm : m.named d s = false := by unfold Img.named; rw [hem]; rfl
              clear HM2 LV ST
              by_cases h1 : m.ino d s = 0
              · by_cases h2 : m.est d s = 0
                · have Z := hide (unhide NS (Img.slot_0 hnm h1 h2))
                  have E1 := hide h1
                  have E2 := hide h2
                  rw [h1] at i1
                  rw [h2] at s1
                  rw [h1, h2] at HA
                  clear h1 h2 hnm
                  go_wp2_with fail
                  go_roundw
                  case rel => exact ⟨s + 1, by omega, by go_num, HA, Z⟩
                  case measure => simp [intOf]; omega
                · have Z := hide (unhide BD (Img.slot_12 hnm (fun z => h2 z.2)))
                  have h3 : (m.est d s == 0) = false := by simpa using h2
                  have h4 : (m.est d s != 0) = true := by simpa using h2
                  rw [h1] at i1 HA
                  clear h1 hnm
                  go_wp2_with fail
                  go_ret
                  exact ⟨faultNo (unhide Z) (by decide), unhide HA⟩
              · have Z := hide (unhide BD (Img.slot_12 hnm (fun z => h1 z.1)))
                have h3 : (m.ino d s == 0) = false := by simpa using h1
                have h4 : (m.ino d s != 0) = true := by simpa using h1
                clear hnm
                go_wp2_with fail
                go_ret
                exact ⟨faultNo (unhide Z) (by decide), unhide HA⟩
          · have t4 : decide ((s : Int) < 4) = false := by simp; omega
            have es : s = 4 := by omega
            subst es
            have Z := hide (unhide ND (unhide HS))
            go_wp2_with fail
            go_roundw
            case rel => exact ⟨d + 1, by omega, by go_num, HB, Z⟩
            case measure => simp [intOf]; omega
    · have t3 : decide ((d : Int) < 3) = false := by simp; omega
      have ed : d = 3 := by omega
      subst ed
      have FS := HD
      clear HD
      go_wp2_with fail
      go_loopw [6] (fun i wr => ∃ n : Nat, n ≤ 8 ∧ i = .int .i64 n ∧ Hid (Below w.heap.size w wr) ∧ Hid (∀ j, j < n → m.checkInode j = 0)) (fun i _ => 8 - (intOf i).toNat)
      case atStart => exact ⟨0, by omega, rfl, HB, hide fun j hj => by omega⟩
      case round =>
        clear HB
        obtain ⟨n, hn, rfl, HB, HN⟩ := hrel
        by_cases hln : n < 8
        · as_aux_lemma =>
            have t8 : decide ((n : Int) < 8) = true := by simp; omega
            have NN := hide (fun (h : m.checkInode n = 0) => all_succ' (unhide HN) h)
            clear HN
            have hM := (unhide HM).below (unhide HB) hlb
            have lb := hM.lt
            have a0 := hM.live n hln
            have a1 := hM.stamp n hln
            have a2 := hM.links n hln
            have a3 := hM.part n 0 hln (by omega)
            have a4 := hM.part n 1 hln (by omega)
            have P0 := hide (Bx5.mk' (unhide HB) m n)
            clear hM
            go_upto_region 23 with fail
            generalize (wr.alloc (.cells #[.bool (m.live n), .int .i64 (m.stamp n), .int .i64 (m.links n), .int .i64 (m.part n 0), .int .i64 (m.part n 1)] 24)) = X at P0 ⊢
            generalize wr.heap.size = g at P0 ⊢
            clear a0 a1 a2 a3 a4 lb HB
            have gl := (unhide P0).lt
            cases hl : m.live n
            · have c0 := (unhide P0).cells.c0
              rw [hl] at c0
              have qn : ∀ w, (binOp .neq 24 (.agg #[.bool (m.live n), .int .i64 (m.stamp n), .int .i64 (m.links n), .int .i64 (m.part n 0), .int .i64 (m.part n 1)]) (.agg #[.bool false, .int .i64 0, .int .i64 0, .int .i64 (-1), .int .i64 (-1)])).run Tryz.prog w = .ok (.bool (!inoB (m.inode n) Ino.none)) w := fun w => neqlInode (m.inode n) Ino.none w
              have hsz := (unhide P0).below.size
              cases hv : inoB (m.inode n) Ino.none
              · have Z := hide (Img.ino_12 hln hl hv)
                rw [hv] at qn
                clear hl hv
                go_wp2_with fail
                refine wp_region_held_drew (S := fun W => W.heap[g]? = some (.cells #[.bool (m.live n), .int .i64 (m.stamp n), .int .i64 (m.links n), .int .i64 (m.part n 0), .int .i64 (m.part n 1)] 24)) (by kernel_rfl) (unhide P0).row (fun hS => ?_)
                refine tkH (i := 0) (oi := ⟨some 95, .load 24 (.tmp 7), 24, "base.go:162", #[], none⟩) (v := .agg #[.bool (m.live n), .int .i64 (m.stamp n), .int .i64 (m.links n), .int .i64 (m.part n 0), .int .i64 (m.part n 1)]) (fun W h => run_exec_load_part 24 (.tmp 7) (by kernel_rfl) g 0 5 (by kernel_rfl) W 24 #[.bool (m.live n), .int .i64 (m.stamp n), .int .i64 (m.links n), .int .i64 (m.part n 0), .int .i64 (m.part n 1)] #[.bool (m.live n), .int .i64 (m.stamp n), .int .i64 (m.links n), .int .i64 (m.part n 0), .int .i64 (m.part n 1)] _ h ino_under rfl ino_info (Nat.le_refl 5) rfl) hS ?_
                refine wpAnyH_ready (rs := [1]) (by kernel_rfl) (by simp) ?_
                refine AllReadyH.cons (o := ⟨some 96, .call { callee := .value (.func 47), args := #[], argTypes := #[] }, 24, "base.go:162", #[], none⟩) rfl (fun K hK => ?_) AllReadyH.nil
                go_simp
                refine (none_any _).mono ?_
                rintro e w' ⟨rfl, hb⟩
                go_wp2_with fail
                refine hK.out _ _ (by rw [hb.block _ (by simpa using gl)]; exact hS) (fun hS1 => ?_)
                clear hK K
                refine tkH (i := 2) (oi := ⟨some 97, .binOp .neq 24 (.tmp 95) (.tmp 96) 24, 4, "base.go:162", #[⟨0, .data⟩, ⟨1, .data⟩], none⟩) (v := .bool true) (fun W h => run_exec_neql 24 24 (.tmp 95) (.tmp 96) (by kernel_rfl) _ _ (by kernel_rfl) (by kernel_rfl) _ Tryz.eqGuardType24 qn W) hS1 ?_
                refine wpAnyH_done (by kernel_rfl) ?_ _
                simp only [Act.put, List.setIfInBounds_toArray, List.set_cons_zero, List.set_cons_succ]
                all_goals
                  go_wp2_with fail
                  go_ret
                  exact ⟨faultNo (unhide Z) (by decide), ((unhide P0).below.drew).trans (hb.mono (by simpa using hsz))⟩
              · have Z := hide (unhide NN (Img.checkInode_none (Img.ino_none hv)))
                rw [hv] at qn
                clear hl hv
                go_wp2_with fail
                refine wp_region_held_drew (S := fun W => W.heap[g]? = some (.cells #[.bool (m.live n), .int .i64 (m.stamp n), .int .i64 (m.links n), .int .i64 (m.part n 0), .int .i64 (m.part n 1)] 24)) (by kernel_rfl) (unhide P0).row (fun hS => ?_)
                refine tkH (i := 0) (oi := ⟨some 95, .load 24 (.tmp 7), 24, "base.go:162", #[], none⟩) (v := .agg #[.bool (m.live n), .int .i64 (m.stamp n), .int .i64 (m.links n), .int .i64 (m.part n 0), .int .i64 (m.part n 1)]) (fun W h => run_exec_load_part 24 (.tmp 7) (by kernel_rfl) g 0 5 (by kernel_rfl) W 24 #[.bool (m.live n), .int .i64 (m.stamp n), .int .i64 (m.links n), .int .i64 (m.part n 0), .int .i64 (m.part n 1)] #[.bool (m.live n), .int .i64 (m.stamp n), .int .i64 (m.links n), .int .i64 (m.part n 0), .int .i64 (m.part n 1)] _ h ino_under rfl ino_info (Nat.le_refl 5) rfl) hS ?_
                refine wpAnyH_ready (rs := [1]) (by kernel_rfl) (by simp) ?_
                refine AllReadyH.cons (o := ⟨some 96, .call { callee := .value (.func 47), args := #[], argTypes := #[] }, 24, "base.go:162", #[], none⟩) rfl (fun K hK => ?_) AllReadyH.nil
                go_simp
                refine (none_any _).mono ?_
                rintro e w' ⟨rfl, hb⟩
                go_wp2_with fail
                refine hK.out _ _ (by rw [hb.block _ (by simpa using gl)]; exact hS) (fun hS1 => ?_)
                clear hK K
                refine tkH (i := 2) (oi := ⟨some 97, .binOp .neq 24 (.tmp 95) (.tmp 96) 24, 4, "base.go:162", #[⟨0, .data⟩, ⟨1, .data⟩], none⟩) (v := .bool false) (fun W h => run_exec_neql 24 24 (.tmp 95) (.tmp 96) (by kernel_rfl) _ _ (by kernel_rfl) (by kernel_rfl) _ Tryz.eqGuardType24 qn W) hS1 ?_
                refine wpAnyH_done (by kernel_rfl) ?_ _
                simp only [Act.put, List.setIfInBounds_toArray, List.set_cons_zero, List.set_cons_succ]
                all_goals
                  have HBN := hide (((unhide P0).below.drew).trans (hb.mono (by simpa using hsz)))
                  go_wp2_with fail
                  go_roundw
                  case rel => first | exact ⟨n + 1, by omega, by go_num, HBN, Z⟩ | ((repeat apply Exists.intro); exact ⟨⟨n + 1, by omega, by go_num, HBN, Z⟩, rfl⟩)
                  case measure => simp [intOf]; omega
            · obtain ⟨c0, c1, c2, _, _, _⟩ := (unhide P0).cells
              rw [hl] at c0
              have CL := hide (fun (q : Nat) => rLeads_any b m (n : Int) _ ((unhide HM).below (belowN (n := q) (unhide P0).below) hlb))
              have HL := hide hl
              clear hl
              by_cases h1 : m.stamp n < 1
              · have u1 : decide (m.stamp n < 1) = true := by simpa using h1
                have Z := hide (show m.check ≠ 0 from fun e => by have := (Img.inode_parts_ok e hln (unhide HL)).1; omega)
                clear h1
                go_wp2_with fail
                try (go_quiet (fail); go_wp2_with fail)
                go_ret
                exact ⟨faultNo (unhide Z) (by decide), by first | exact (unhide P0).below | exact belowN ((unhide P0).below)⟩
              · have u1 : decide (m.stamp n < 1) = false := by simpa using h1
                have H1 := hide (show 1 ≤ m.stamp n by omega)
                clear h1
                have hr := m.refs_le (n : Int)
                obtain ⟨rr, hrr⟩ : ∃ rr : Int, rr = ((m.refs (n : Int) : Nat) : Int) := ⟨_, rfl⟩
                rw [← hrr] at CL
                have HR := hide hrr
                clear hrr hr
                by_cases h2 : m.links n < rr
                · have u2 : decide (m.links n < rr) = true := by simpa using h2
                  have Z := hide (show m.check ≠ 0 from fun e => by have := (Img.inode_parts_ok e hln (unhide HL)).2.1; have := unhide HR; omega)
                  clear h2
                  go_wp2_with fail
                  go_quiet ((go_at_call 48; exact Calls.quiet_of_same (unhide CL _)))
                  go_wp2_with fail
                  go_ret
                  exact ⟨faultNo (unhide Z) (by decide), by first | exact (unhide P0).below | exact belowN (unhide P0).below⟩
                · have u2 : decide (m.links n < rr) = false := by simpa using h2
                  have H2 := hide (show ((m.refs (n : Int) : Nat) : Int) ≤ m.links n by have := unhide HR; omega)
                  clear h2
                  go_wp2_with fail
                  go_quiet ((go_at_call 48; exact Calls.quiet_of_same (unhide CL _)))
                  go_wp2_with fail
                  go_loopw [8] (fun i wx => ∃ p : Nat, p ≤ 2 ∧ i = .int .i64 p ∧ Hid (Bx5 w wx g m n) ∧ Hid (∀ q, q < p → m.checkPart (m.part n q) (m.stamp n) = 0)) (fun i _ => 2 - (intOf i).toNat)
                  case atStart => exact ⟨0, by omega, rfl, by first | exact P0 | exact hide ((unhide P0).draw _), hide fun j hj => by omega⟩
                  case round =>
                    clear P0 c0 c1 c2 CL gl
                    obtain ⟨p, hp, rfl, P0, HP⟩ := hrel
                    have c1 := (unhide P0).cells.c1
                    by_cases hlp : p < 2
                    · have v2 : decide ((p : Int) < 2) = true := by simp; omega
                      have cp := (unhide P0).cells.part p hlp
                      have NP := hide (fun (h : m.checkPart (m.part n p) (m.stamp n) = 0) => all_succ' (unhide HP) h)
                      have BP := hide (show m.checkPart (m.part n p) (m.stamp n) ≠ 0 → m.check ≠ 0 from fun h e => h ((Img.inode_parts_ok e hln (unhide HL)).2.2 p hlp))
                      clear HP
                      have hM := (unhide HM).below (unhide P0).below hlb
                      have lb := hM.lt
                      have OF := hide (fun (x : Nat) (hx : x < 9) => hM.of x hx)
                      clear hM
                      have CI := hide (Img.checkPart_iff (m := m) (p := m.part n p) (st := m.stamp n))
                      obtain ⟨x, hx⟩ : ∃ x : Int, x = m.part n p := ⟨_, rfl⟩
                      rw [← hx] at cp NP BP CI
                      clear hx
                      by_cases e : x = -1
                      · have W := hide (unhide NP ((unhide CI).2 (.inl e)))
                        subst e
                        clear NP BP CI OF
                        go_wp2_with fail
                        try (go_quiet (fail); go_wp2_with fail)
                        go_roundw
                        case rel => exact ⟨p + 1, by omega, by go_num, by first | exact P0 | exact hide ((unhide P0).draw _), W⟩
                        case measure => simp [intOf]; omega
                      · have e2 : (x == -1) = false := by simpa using e
                        have e3 : (x != -1) = true := by simpa using e
                        have e4 : decide (x = -1) = false := by simpa using e
                        by_cases h0 : x < 0
                        · have d1 : decide (x < 0) = true := by simpa using h0
                          have Z := hide (unhide BP (fun z => by
                            rcases (unhide CI).1 z with y | y
                            · exact e y
                            · have : 0 ≤ x ∧ x < 9 := by simpa [Img.isD] using y.1
                              omega))
                          clear h0 NP BP CI OF
                          go_wp2_with fail
                          try (go_quiet (fail); go_wp2_with fail)
                          go_ret
                          exact ⟨faultNo (unhide Z) (by decide), by first | exact (unhide P0).below | exact belowN ((unhide P0).below)⟩
                        · have d1 : decide (x < 0) = false := by simpa using h0
                          by_cases h9 : 9 ≤ x
                          · have d2 : decide (9 ≤ x) = true := by simpa using h9
                            have d3 : decide (x ≥ 9) = true := by simpa using h9
                            have Z := hide (unhide BP (fun z => by
                              rcases (unhide CI).1 z with y | y
                              · exact e y
                              · have : 0 ≤ x ∧ x < 9 := by simpa [Img.isD] using y.1
                                omega))
                            clear h0 h9 NP BP CI OF
                            go_wp2_with fail
                            try (go_quiet (fail); go_wp2_with fail)
                            go_ret
                            exact ⟨faultNo (unhide Z) (by decide), by first | exact (unhide P0).below | exact belowN ((unhide P0).below)⟩
                          · have d2 : decide (9 ≤ x) = false := by simpa using h9
                            have d3 : decide (x ≥ 9) = false := by simpa using h9
                            obtain ⟨kx, rfl⟩ := Int.eq_ofNat_of_zero_le (show 0 ≤ x by omega)
                            have hk9 : kx < 9 := by omega
                            have o1 := unhide OF kx hk9
                            clear h0 h9 OF
                            by_cases hst : m.of kx = m.stamp n
                            · have W := hide (unhide NP ((unhide CI).2 (.inr ⟨by simp [Img.isD]; omega, by rw [Int.toNat_natCast]; exact hst⟩)))
                              rw [hst] at o1
                              clear hst NP BP CI
                              go_wp2_with fail
                              try (go_quiet (fail); go_wp2_with fail)
                              go_roundw
                              case rel => exact ⟨p + 1, by omega, by go_num, by first | exact P0 | exact hide ((unhide P0).draw _), W⟩
                              case measure => simp [intOf]; omega
                            · have Z := hide (unhide BP (fun z => by
                                rcases (unhide CI).1 z with y | y
                                · exact e y
                                · rw [Int.toNat_natCast] at y; exact hst y.2))
                              have f1 : (m.of kx == m.stamp n) = false := by simpa using hst
                              have f2 : (m.of kx != m.stamp n) = true := by simpa using hst
                              have f3 : decide (m.of kx = m.stamp n) = false := by simpa using hst
                              clear NP BP CI
                              go_wp2_with fail
                              try (go_quiet (fail); go_wp2_with fail)
                              go_ret
                              exact ⟨faultNo (unhide Z) (by decide), by first | exact (unhide P0).below | exact belowN ((unhide P0).below)⟩
                    · have v2 : decide ((p : Int) < 2) = false := by simp; omega
                      have ep : p = 2 := by omega
                      subst ep
                      have W := hide (unhide NN (Img.checkInode_live (unhide HL) (unhide H1) (unhide H2) (unhide HP)))
                      go_wp2_with fail
                      go_roundw
                      case rel => exact ⟨n + 1, by omega, by go_num, hide (unhide P0).below, W⟩
                      case measure => simp [intOf]; omega
        · have t8 : decide ((n : Int) < 8) = false := by simp; omega
          have en : n = 8 := by omega
          subst en
          have FN := HN
          clear HN
          go_wp2_with fail
          go_loopw [10] (fun i wr => ∃ n : Nat, n ≤ 8 ∧ i = .int .i64 n ∧ Hid (Below w.heap.size w wr) ∧ Hid (∀ j, j < n → ∀ k, k < 8 → Img.PairOk m j k)) (fun i _ => 8 - (intOf i).toNat)
          case atStart => exact ⟨0, by omega, rfl, HB, hide fun j hj => by omega⟩
          case round =>
            clear HB
            obtain ⟨n, hn, rfl, HB, HN⟩ := hrel
            by_cases hln : n < 8
            · have t8 : decide ((n : Int) < 8) = true := by simp; omega
              have NN := hide (fun (h : ∀ k, k < 8 → Img.PairOk m n k) => all_succ' (unhide HN) h)
              clear HN
              go_wp2_with fail
              go_loopw [11] (fun i wr => ∃ k : Nat, k ≤ 8 ∧ i = .int .i64 k ∧ Hid (Below w.heap.size w wr) ∧ Hid (∀ j, j < k → Img.PairOk m n j)) (fun i _ => 8 - (intOf i).toNat)
              case atStart => exact ⟨0, by omega, rfl, HB, hide fun j hj => by omega⟩
              case round =>
                as_aux_lemma =>
                  clear HB
                  obtain ⟨k, hk, rfl, HB, HK⟩ := hrel
                  by_cases hlk : k < 8
                  · have s8 : decide ((k : Int) < 8) = true := by simp; omega
                    have NK := hide (fun (h : Img.PairOk m n k) => all_succ' (unhide HK) h)
                    clear HK
                    have hM := (unhide HM).below (unhide HB) hlb
                    have lb := hM.lt
                    have a0 := hM.live n hln
                    have a1 := hM.stamp n hln
                    have b0 := hM.live k hlk
                    have b1 := hM.stamp k hlk
                    clear hM
                    cases h1 : m.live n
                    · rw [h1] at a0
                      have W := hide (unhide NK (Img.pair_dead (.inl h1)))
                      go_wp2_with fail
                      try (go_quiet (fail); go_wp2_with fail)
                      go_roundw
                      case rel => exact ⟨k + 1, by omega, by go_num, by first | exact HB | exact hide (belowN (unhide HB)), W⟩
                      case measure => simp [intOf]; omega
                    · rw [h1] at a0
                      cases h2 : m.live k
                      · rw [h2] at b0
                        have W := hide (unhide NK (Img.pair_dead (.inr h2)))
                        go_wp2_with fail
                        try (go_quiet (fail); go_wp2_with fail)
                        go_roundw
                        case rel => exact ⟨k + 1, by omega, by go_num, by first | exact HB | exact hide (belowN (unhide HB)), W⟩
                        case measure => simp [intOf]; omega
                      · rw [h2] at b0
                        have L1 := hide h1
                        have L2 := hide h2
                        clear h1 h2
                        by_cases e : n = k
                        · subst e
                          go_wp2_with fail
                          go_quiet (fail)
                          go_wp2_with fail
                          go_loopw [12] (fun i wx => ∃ p : Nat, p ≤ 2 ∧ i = .int .i64 p ∧ Hid (Below w.heap.size w wx) ∧ Hid (∀ j, j < p → ∀ q, q < 2 → Img.TwoOk m n n j q)) (fun i _ => 2 - (intOf i).toNat)
                          case atStart => exact ⟨0, by omega, rfl, by first | exact HB | exact hide (belowN (unhide HB)), hide fun j hj => by omega⟩
                          case round =>
                            clear HB a0 a1 b0 b1
                            obtain ⟨p, hp, rfl, HB, HP⟩ := hrel
                            by_cases hlp : p < 2
                            · have v2 : decide ((p : Int) < 2) = true := by simp; omega
                              have NP := hide (fun (h : ∀ q, q < 2 → Img.TwoOk m n n p q) => all_succ' (unhide HP) h)
                              clear HP
                              go_wp2_with fail
                              go_loopw [13] (fun i wx => ∃ q : Nat, q ≤ 2 ∧ i = .int .i64 q ∧ Hid (Below w.heap.size w wx) ∧ Hid (∀ j, j < q → Img.TwoOk m n n p j)) (fun i _ => 2 - (intOf i).toNat)
                              case atStart => exact ⟨0, by omega, rfl, HB, hide fun j hj => by omega⟩
                              case round =>
                                clear HB
                                obtain ⟨q, hq, rfl, HB, HQ⟩ := hrel
                                by_cases hlq : q < 2
                                · have v3 : decide ((q : Int) < 2) = true := by simp; omega
                                  have NQ := hide (fun (h : Img.TwoOk m n n p q) => all_succ' (unhide HQ) h)
                                  clear HQ
                                  have hM := (unhide HM).below (unhide HB) hlb
                                  have lb := hM.lt
                                  have x1 := hM.part n p hln hlp
                                  have x2 := hM.part n q hln hlq
                                  clear hM
                                  by_cases f : p = q
                                  · have W := hide (unhide NQ (fun _ _ z => absurd f (by rcases z with z | z; exact absurd rfl z; exact z)))
                                    subst f
                                    go_wp2_with fail
                                    try (go_quiet (fail); go_wp2_with fail)
                                    go_roundw
                                    case rel => exact ⟨p + 1, by omega, by go_num, by first | exact HB | exact hide (belowN (unhide HB)), W⟩
                                    case measure => simp [intOf]; omega
                                  · have f9 := f
                                    have f2 : ((p : Int) == (q : Int)) = false := by simp; omega
                                    have f3 : (p == q) = false := by simpa using f
                                    have f4 : ((p : Int) != (q : Int)) = true := by simp; omega
                                    have f5 : decide ((p : Int) = (q : Int)) = false := by simp; omega
                                    have f6 : ¬ ((p : Int) = (q : Int)) := by omega
                                    by_cases h0 : 0 ≤ m.part n p
                                    · have d0 : decide (0 ≤ m.part n p) = true := by simpa using h0
                                      have d1 : decide (m.part n p ≥ 0) = true := by simpa using h0
                                      cases he : (m.part n p == m.part n q)
                                      · have W := hide (unhide NQ (fun _ _ _ _ z => by rw [z] at he; simp at he))
                                        clear h0
                                        go_wp2_with fail
                                        try (go_quiet (fail); go_wp2_with fail)
                                        go_roundw
                                        case rel => exact ⟨q + 1, by omega, by go_num, by first | exact HB | exact hide (belowN (unhide HB)), W⟩
                                        case measure => simp [intOf]; omega
                                      · have Z := hide (Img.bad_part hln hln hlp hlq (unhide L1) (unhide L2) (.inr f) h0 (by simpa using he))
                                        clear h0
                                        go_wp2_with fail
                                        try (go_quiet (fail); go_wp2_with fail)
                                        go_ret
                                        exact ⟨faultNo (unhide Z) (by decide), by first | exact unhide HB | exact belowN (unhide HB)⟩
                                    · have d0 : decide (0 ≤ m.part n p) = false := by simpa using h0
                                      have d1 : decide (m.part n p ≥ 0) = false := by simpa using h0
                                      have W := hide (unhide NQ (fun _ _ _ z => absurd z h0))
                                      clear h0
                                      go_wp2_with fail
                                      try (go_quiet (fail); go_wp2_with fail)
                                      go_roundw
                                      case rel => exact ⟨q + 1, by omega, by go_num, by first | exact HB | exact hide (belowN (unhide HB)), W⟩
                                      case measure => simp [intOf]; omega
                                · have v3 : decide ((q : Int) < 2) = false := by simp; omega
                                  have eq : q = 2 := by omega
                                  subst eq
                                  have W := hide (unhide NP (unhide HQ))
                                  go_wp2_with fail
                                  go_roundw
                                  case rel => exact ⟨p + 1, by omega, by go_num, HB, W⟩
                                  case measure => simp [intOf]; omega
                            · have v2 : decide ((p : Int) < 2) = false := by simp; omega
                              have ep : p = 2 := by omega
                              subst ep
                              have W := hide (unhide NK ⟨fun _ _ z => absurd rfl z, unhide HP⟩)
                              go_wp2_with fail
                              go_roundw
                              case rel => exact ⟨n + 1, by omega, by go_num, HB, W⟩
                              case measure => simp [intOf]; omega
                        · have e9 := e
                          have e2 : ((n : Int) == (k : Int)) = false := by simp; omega
                          have e3 : (n == k) = false := by simpa using e
                          have e4 : ((n : Int) != (k : Int)) = true := by simp; omega
                          have e5 : decide ((n : Int) = (k : Int)) = false := by simp; omega
                          have e6 : ¬ ((n : Int) = (k : Int)) := by omega
                          cases h3 : (m.stamp n == m.stamp k)
                          · have SO := hide (show Img.StampOk m n k from fun _ _ _ => by simpa using h3)
                            go_wp2_with fail
                            go_quiet (fail)
                            go_wp2_with fail
                            go_loopw [12] (fun i wx => ∃ p : Nat, p ≤ 2 ∧ i = .int .i64 p ∧ Hid (Below w.heap.size w wx) ∧ Hid (∀ j, j < p → ∀ q, q < 2 → Img.TwoOk m n k j q)) (fun i _ => 2 - (intOf i).toNat)
                            case atStart => exact ⟨0, by omega, rfl, by first | exact HB | exact hide (belowN (unhide HB)), hide fun j hj => by omega⟩
                            case round =>
                              clear HB a0 a1 b0 b1
                              obtain ⟨p, hp, rfl, HB, HP⟩ := hrel
                              by_cases hlp : p < 2
                              · have v2 : decide ((p : Int) < 2) = true := by simp; omega
                                have NP := hide (fun (h : ∀ q, q < 2 → Img.TwoOk m n k p q) => all_succ' (unhide HP) h)
                                clear HP
                                go_wp2_with fail
                                go_loopw [13] (fun i wx => ∃ q : Nat, q ≤ 2 ∧ i = .int .i64 q ∧ Hid (Below w.heap.size w wx) ∧ Hid (∀ j, j < q → Img.TwoOk m n k p j)) (fun i _ => 2 - (intOf i).toNat)
                                case atStart => exact ⟨0, by omega, rfl, HB, hide fun j hj => by omega⟩
                                case round =>
                                  clear HB
                                  obtain ⟨q, hq, rfl, HB, HQ⟩ := hrel
                                  by_cases hlq : q < 2
                                  · have v3 : decide ((q : Int) < 2) = true := by simp; omega
                                    have NQ := hide (fun (h : Img.TwoOk m n k p q) => all_succ' (unhide HQ) h)
                                    clear HQ
                                    have hM := (unhide HM).below (unhide HB) hlb
                                    have lb := hM.lt
                                    have x1 := hM.part n p hln hlp
                                    have x2 := hM.part k q hlk hlq
                                    clear hM
                                    by_cases h0 : 0 ≤ m.part n p
                                    · have d0 : decide (0 ≤ m.part n p) = true := by simpa using h0
                                      have d1 : decide (m.part n p ≥ 0) = true := by simpa using h0
                                      cases he : (m.part n p == m.part k q)
                                      · have W := hide (unhide NQ (fun _ _ _ _ z => by rw [z] at he; simp at he))
                                        clear h0
                                        go_wp2_with fail
                                        try (go_quiet (fail); go_wp2_with fail)
                                        go_roundw
                                        case rel => exact ⟨q + 1, by omega, by go_num, by first | exact HB | exact hide (belowN (unhide HB)), W⟩
                                        case measure => simp [intOf]; omega
                                      · have Z := hide (Img.bad_part hln hlk hlp hlq (unhide L1) (unhide L2) (.inl e) h0 (by simpa using he))
                                        clear h0
                                        go_wp2_with fail
                                        try (go_quiet (fail); go_wp2_with fail)
                                        go_ret
                                        exact ⟨faultNo (unhide Z) (by decide), by first | exact unhide HB | exact belowN (unhide HB)⟩
                                    · have d0 : decide (0 ≤ m.part n p) = false := by simpa using h0
                                      have d1 : decide (m.part n p ≥ 0) = false := by simpa using h0
                                      have W := hide (unhide NQ (fun _ _ _ z => absurd z h0))
                                      clear h0
                                      go_wp2_with fail
                                      try (go_quiet (fail); go_wp2_with fail)
                                      go_roundw
                                      case rel => exact ⟨q + 1, by omega, by go_num, by first | exact HB | exact hide (belowN (unhide HB)), W⟩
                                      case measure => simp [intOf]; omega
                                  · have v3 : decide ((q : Int) < 2) = false := by simp; omega
                                    have eq : q = 2 := by omega
                                    subst eq
                                    have W := hide (unhide NP (unhide HQ))
                                    go_wp2_with fail
                                    go_roundw
                                    case rel => exact ⟨p + 1, by omega, by go_num, HB, W⟩
                                    case measure => simp [intOf]; omega
                              · have v2 : decide ((p : Int) < 2) = false := by simp; omega
                                have ep : p = 2 := by omega
                                subst ep
                                have W := hide (unhide NK ⟨unhide SO, unhide HP⟩)
                                go_wp2_with fail
                                go_roundw
                                case rel => exact ⟨k + 1, by omega, by go_num, HB, W⟩
                                case measure => simp [intOf]; omega
                          · have Z := hide (Img.bad_stamp hln hlk (unhide L1) (unhide L2) e (by simpa using h3))
                            go_wp2_with fail
                            try (go_quiet (fail); go_wp2_with fail)
                            go_ret
                            exact ⟨faultNo (unhide Z) (by decide), by first | exact unhide HB | exact belowN (unhide HB)⟩
                  · have s8 : decide ((k : Int) < 8) = false := by simp; omega
                    have ek : k = 8 := by omega
                    subst ek
                    have W := hide (unhide NN (unhide HK))
                    go_wp2_with fail
                    go_roundw
                    case rel => exact ⟨n + 1, by omega, by go_num, HB, W⟩
                    case measure => simp [intOf]; omega
            · have t8 : decide ((n : Int) < 8) = false := by simp; omega
              have en : n = 8 := by omega
              subst en
              go_wp2_with fail
              go_ret
              exact ⟨faultOk (Img.fault_end (unhide FS) (unhide FN) (unhide HN)), unhide HB⟩
end Go.Proofs.YtmbpckmpnnmnmabGreat
