/-
  The walks of slices.Equal over inodes, and of package cache: Dirty.
-/
import Derived.Test.YtmlhalhjfcfagabGreatYe
import Derived.Test.YtmlhalhjfcfagabGreatYj
namespace Go.Proofs.YtmlhalhjfcfagabGreat
open Go.RowKit
/-- an inode's cells -/
structure InoAt (w : World) (g o : Nat) (i : Ino) : Prop where
  live : w.cell? ⟨g, o, none⟩ = some (.bool i.live)
  stamp : w.cell? ⟨g, o + 1, none⟩ = some (.int .i64 i.stamp)
  links : w.cell? ⟨g, o + 2, none⟩ = some (.int .i64 i.links)
  p0 : w.cell? ⟨g, o + 3 + 0, none⟩ = some (.int .i64 i.p0)
  p1 : w.cell? ⟨g, o + 3 + 1, none⟩ = some (.int .i64 i.p1)
theorem HasAt.inoAt {w : World} {g o : Nat} {m : Img} (h : HasAt w g o m) {n : Nat} (hn : n < 8) : InoAt w g (o + n * 5) (m.inode n) := ⟨h.live n hn, h.stamp n hn, h.links n hn, h.part n 0 hn (by omega), h.part n 1 hn (by omega)⟩
theorem quiet_up {P : Program} {f : FuncId} {args : Array Value} {w : World} {n : Nat} {v : Value}
    (h : Calls P f args (w.drewN n) fun e w' => e = .returned v ∧ ∃ q, w' = (w.drewN n).drewN q) : Calls P f args (w.drewN n) fun e w'' => e = .returned v ∧ ∃ m, w'' = w.drewN m :=
  h.mono fun _ _ ⟨he, q, hm⟩ => ⟨he, n + q, by rw [hm, drewNN]⟩
theorem run_exec_neql {P : Program} {o : Oper} {ρ : Operand → Value} (ty tz : TypeId) (x y : Operand) (ho : o.op = .binOp .neq ty x y tz) (cs ds : Array Value) (hx : ρ x = .agg cs) (hy : ρ y = .agg ds) (v : Bool)
    (hm : P.eqGuardType P.depth ty = false) (hq : ∀ w, (binOp .neq ty (.agg cs) (.agg ds)).run P w = .ok (.bool v) w) (w : World) : (execOp ρ o).run P w = .ok (.value (.bool v)) w := by
  unfold execOp
  rw [ho]
  go_simp
theorem dir_under : Tryz.prog.underlying 28 = some (.array 4 27) := by kernel_rfl
section
variable {cs ds : Array Value} {d : Nat}
theorem cut_fst (z1 : cs.size = 94) (hd : d < 3) : (cs ++ ds).extract (40 + d * 12) (40 + d * 12 + 12) = (cs.extract 40 (40 + 36)).extract (d * 12) (d * 12 + 12) := by
  refine Array.ext_getElem? fun i => ?_
  rw [Array.getElem?_extract, Array.getElem?_extract, Array.getElem?_extract, Array.getElem?_append]
  by_cases hi : i < 12
  · rw [if_pos (by simp; omega), if_pos (by omega), if_pos (by simp; omega), if_pos (by omega)]; congr 1; omega
  · rw [if_neg (by omega), if_neg (by omega)]
theorem cut_snd (z1 : cs.size = 94) (z2 : ds.size = 94) (hd : d < 3) : (cs ++ ds).extract (134 + d * 12) (134 + d * 12 + 12) = (ds.extract 40 (40 + 36)).extract (d * 12) (d * 12 + 12) := by
  refine Array.ext_getElem? fun i => ?_
  rw [Array.getElem?_extract, Array.getElem?_extract, Array.getElem?_extract, Array.getElem?_append]
  by_cases hi : i < 12
  · rw [if_pos (by simp; omega), if_neg (by omega), if_pos (by simp; omega), if_pos (by omega)]; congr 1; omega
  · rw [if_neg (by omega), if_neg (by omega)]
end
end Go.Proofs.YtmlhalhjfcfagabGreat
namespace Go.Proofs.YtmlhalhjfcfagabGreat
open Go.RowKit
theorem zero_kinds : Kinds zeroCells := .of (size_newTo 0) (by kernel_rfl)
theorem zero_check : (imgOf zeroCells).check = 12 := by kernel_rfl
theorem cb_clean : Img.sameImg blankI blankI = true := by kernel_rfl
theorem cb_dirty0 : Img.dirty blankI blankI 0 = false := by kernel_rfl
theorem cb_ino : Img.freeIno blankI blankI = 0 := by kernel_rfl
theorem cb_slot1 : Img.freeSlot blankI blankI 1 = 0 := by kernel_rfl
theorem cb_data : Img.freeData blankI blankI = 0 := by kernel_rfl
theorem cb_slot3 : Img.freeSlot blankI blankI 3 = -1 := by kernel_rfl
theorem cb_dirty3 : Img.dirty oneI blankI 3 = true := by kernel_rfl
theorem cb_clean2 : Img.sameImg oneI blankI = false := by kernel_rfl
theorem cb_ino2 : Img.freeIno oneI blankI = 0 := by kernel_rfl
theorem cb_sync : (Img.syn oneI 8 blankI).1 = 2 := by kernel_rfl
theorem cb_synced : Img.sameImg oneI (Img.syn oneI 8 blankI).2 = true := by kernel_rfl
theorem cb_clean3 : Img.sameImg oneI oneI = true := by kernel_rfl
theorem cb_out : Img.inB (-1) = false := by decide
end Go.Proofs.YtmlhalhjfcfagabGreat
namespace Go.Proofs.YtmlhalhjfcfagabGreat
open Go.RowKit
open Idl (Stp chk stpA strs belowD one_new one_str)
namespace Sft
theorem names_cell {w : World} {base : Nat} {v : Value} {l : List ByteArray} (h : w.ownsRow base 9 1 v l.length (strs l)) :
    (v = .slice none 0 0 ∧ l = []) ∨ ∃ g c, v = .slice (some ⟨g, 0, none⟩) l.length c ∧ g < w.heap.size ∧ ∀ i (hi : i < l.length), w.cell? ⟨g, i, none⟩ = some (.string l[i]) := by
  rcases h.2 with ⟨h1, h2⟩ | ⟨g, cap, cur, h1, _, h3, h4, h5, h6, h7⟩
  · exact .inl ⟨h1, List.eq_nil_of_length_eq_zero h2⟩
  · refine .inr ⟨g, cap, h1, (Array.getElem?_eq_some_iff.1 h3).1, fun i hi => ?_⟩
    rw [cell_of_row w g _ _ _ _ h3]
    have : (strs l)[i]? = some (.string l[i]) := by simp [strs, hi]
    rw [← h7, List.getElem?_take] at this
    split at this
    · simpa using this
    · cases this
set_option maxHeartbeats 1000000 in
set_option maxRecDepth 100000 in
theorem SameTexts_any {w : World} {b1 b2 : Nat} {v1 v2 : Value} {l : List ByteArray} (h1 : w.ownsRow b1 9 1 v1 l.length (strs l)) (h2 : w.ownsRow b2 9 1 v2 l.length (strs l)) (hl : l.length ≤ 1000) :
    Calls Tryz.prog 19 #[v1, v2] w fun e w' => e = .returned (.bool true) ∧ Below w.heap.size w w' := by
  rcases names_cell h1 with ⟨rfl, rfl⟩ | ⟨g1, c1, rfl, gl1, k1⟩
  · have e2 : v2 = .slice none 0 0 ∨ ∃ g c, v2 = .slice (some ⟨g, 0, none⟩) 0 c := by
      rcases names_cell h2 with ⟨h, _⟩ | ⟨g, c, h, _, _⟩
      · exact .inl h
      · exact .inr ⟨g, c, h⟩
    clear h1 h2
    rcases e2 with rfl | ⟨g, c, rfl⟩
    · go_enter Tryz.func19, Tryz.ntmps19
      go_wp2
      go_loopw [5] (fun i wr => i = .int .i64 0 ∧ wr = w) (fun _ _ => 0)
      case atStart => exact ⟨rfl, rfl⟩
      case round =>
        obtain ⟨rfl, rfl⟩ := hrel
        go_wp2
        go_ret
        exact ⟨rfl, Below.refl _ _⟩
    · go_enter Tryz.func19, Tryz.ntmps19
      go_wp2
      go_loopw [5] (fun i wr => i = .int .i64 0 ∧ wr = w) (fun _ _ => 0)
      case atStart => exact ⟨rfl, rfl⟩
      case round =>
        obtain ⟨rfl, rfl⟩ := hrel
        go_wp2
        go_ret
        exact ⟨rfl, Below.refl _ _⟩
  · rcases names_cell h2 with ⟨rfl, rfl⟩ | ⟨g2, c2, rfl, gl2, k2⟩
    · clear h1 h2
      go_enter Tryz.func19, Tryz.ntmps19
      go_wp2
      go_loopw [5] (fun i wr => i = .int .i64 0 ∧ wr = w) (fun _ _ => 0)
      case atStart => exact ⟨rfl, rfl⟩
      case round =>
        obtain ⟨rfl, rfl⟩ := hrel
        go_wp2
        go_ret
        exact ⟨rfl, Below.refl _ _⟩
    · have K1 := hide k1
      have K2 := hide k2
      clear h1 h2 k1 k2
      go_enter Tryz.func19, Tryz.ntmps19
      go_wp2
      go_loopw [5] (fun i wr => ∃ k q : Nat, k ≤ l.length ∧ i = .int .i64 k ∧ wr = w.drewN q) (fun i _ => l.length - (intOf i).toNat)
      case atStart => exact ⟨0, 0, Nat.zero_le _, rfl, rfl⟩
      case round =>
        obtain ⟨k, q, hk, rfl, rfl⟩ := hrel
        by_cases hlt : k < l.length
        · have d1 := unhide K1 k hlt
          have d2 := unhide K2 k hlt
          generalize l[k] = nm at d1 d2
          have hz : (k : Int) < (l.length : Int) := by omega
          have hq : (nm.toList == nm.toList) = true := by simp
          go_wp2_with fail
          go_quiet (fail)
          go_wp2
          go_roundw
          case rel => exact ⟨k + 1, q + nq, by omega, by go_num, rfl⟩
          case measure => simp [intOf]; omega
        · go_wp2
          go_ret
          exact ⟨rfl, belowD (Below.refl _ _)⟩
end Sft
/-- files made behind w -/
structure Fo (w : World) (bf bc : Nat) (m k : Img) (last : Int) (W : World) : Prop where
  it : ∃ cs ds, Fl W bf bc cs ds m k last
  bel : Below w.heap.size w W
  f0 : w.heap.size ≤ bf
  c0 : w.heap.size ≤ bc
section
variable {w W W' : World} {bf bc : Nat} {m k : Img} {last : Int}
theorem Fo.call (h : Fo w bf bc m k last W) (hb : Below W.heap.size W W') : Fo w bf bc m k last W' := by
  obtain ⟨cs, ds, f⟩ := h.it
  exact ⟨⟨cs, ds, f.below hb⟩, h.bel.trans (hb.mono h.bel.size), h.f0, h.c0⟩
theorem Fo.new (w : World) {W : World} (hb : Below w.heap.size w W) : Calls Tryz.prog 12 #[] W fun e w' => ∃ bf bc, e = .returned (.pointer (some ⟨bf, 0, none⟩)) ∧ W.heap.size ≤ bf ∧ W.heap.size ≤ bc ∧ Fo w bf bc blankI blankI 0 w' ∧ Below W.heap.size W w' := by
  refine (sNew_any W).mono ?_
  rintro e w' ⟨⟨bf, bc, rfl, h1, h2, f⟩, b⟩
  exact ⟨bf, bc, rfl, h1, h2, ⟨⟨_, _, f⟩, hb.trans (b.mono hb.size), Nat.le_trans hb.size h1, Nat.le_trans hb.size h2⟩, b⟩
theorem Fo.step (h : Fo w bf bc m k last W) (hG : Img.Good m last) (hla : last < 4611686018427387904) (x : Stp) (hn : x.name.size ≤ maxLen) (ht : x.to.size ≤ maxLen) (hx : x.text.size ≤ maxLen) :
    Calls Tryz.prog 30 #[.pointer (some ⟨bf, 0, none⟩), .agg (stpA x)] W fun e w' => e = .returned (.int .i64 (Img.scode m k x)) ∧ Fo w bf bc (Img.sstep m k last x) k (Img.slast m k last x) w' ∧ Idl.Chg (fun i => i = bf ∨ i = bc) W w' := by
  obtain ⟨cs, ds, f⟩ := h.it
  refine (sDo_any f hG hla x hn ht hx).mono ?_
  rintro e w' ⟨rfl, d⟩
  obtain ⟨cs', f'⟩ := d.fl f.disk
  obtain ⟨_, hm, _⟩ := d
  have hb := hm.chg.below h.bel.size (fun i hi => by rcases hi with z | z; rw [z]; exact h.f0; rw [z]; exact h.c0)
  exact ⟨rfl, ⟨⟨cs', ds, f'⟩, h.bel.trans hb, h.f0, h.c0⟩, hm.chg⟩
theorem Fo.mut (h : Fo w bf bc m k last W) {cs ds es : Array Value} {k' : Img} (f : Fl W bf bc cs ds m k last) (hm : Mut W W' bc (cs ++ es) 57) (he : IsImg es k') : Fo w bf bc m k' last W' :=
  ⟨⟨cs, es, by rw [hm.old bf f.flt f.ne]; exact f.root, hm.row, f.now, he, f.ne⟩, h.bel.trans (hm.below _ h.c0 h.bel.size), h.f0, h.c0⟩
theorem Fo.write (h : Fo w bf bc m k last W) (b : Int) :
    Calls Tryz.prog 28 #[.pointer (some ⟨bc, 0, none⟩), .int .i64 b] W fun e w' => e = .returned (.bool (Img.inB b)) ∧ Fo w bf bc m (Img.write m k b) last w' ∧ ∃ c, Mut W w' bc c 57 := by
  obtain ⟨cs, ds, f⟩ := h.it
  refine (cWrite_any bc cs ds m k f.now f.disk b W f.row).mono ?_
  rintro e w' ⟨es, rfl, he, hm⟩
  exact ⟨rfl, h.mut f hm he, _, hm⟩
theorem Fo.sync (h : Fo w bf bc m k last W) :
    Calls Tryz.prog 29 #[.pointer (some ⟨bc, 0, none⟩)] W fun e w' => e = .returned (.int .i64 ((Img.syn m 8 k).1 : Nat)) ∧ Fo w bf bc m (Img.syn m 8 k).2 last w' ∧ ∃ c, Mut W w' bc c 57 := by
  obtain ⟨cs, ds, f⟩ := h.it
  refine (cSync_any bc cs ds m k f.now f.disk W f.row).mono ?_
  rintro e w' ⟨es, rfl, he, hm⟩
  exact ⟨rfl, h.mut f hm he, _, hm⟩
theorem Fo.read (h : Fo w bf bc m k last W) (hm : m.check = 0) (d : Int) (s : ByteArray) (hs : s.size ≤ maxLen) (p : Int) :
    Calls Tryz.prog 22 #[.pointer (some ⟨bf, 0, none⟩), .int .i64 d, .string s, .int .i64 p] W fun e w' => e = .returned (.tuple #[.string (Img.sreadT m d s p), .bool (Img.sreadB m d s p), .int .i64 (Img.sreadC m d s p)]) ∧ Fo w bf bc m k last w' ∧ Below W.heap.size W w' := by
  obtain ⟨cs, ds, f⟩ := h.it
  refine (sRead_any f hm d s hs p).mono ?_
  rintro e w' ⟨rfl, b⟩
  exact ⟨rfl, h.call b, b⟩
theorem Fo.same (h : Fo w bf bc m k last W) (d : Int) (s : ByteArray) (d2 : Int) (u : ByteArray) :
    Calls Tryz.prog 24 #[.pointer (some ⟨bf, 0, none⟩), .int .i64 d, .string s, .int .i64 d2, .string u] W fun e w' => e = .returned (.bool (Img.ssame m d s d2 u)) ∧ w' = W := by
  obtain ⟨cs, ds, f⟩ := h.it
  exact sSame_any f d s d2 u
theorem Fo.sure (h : Fo w bf bc m k last W) (d : Int) (s : ByteArray) :
    Calls Tryz.prog 26 #[.pointer (some ⟨bf, 0, none⟩), .int .i64 d, .string s] W fun e w' => e = .returned (.bool (Img.ssure m k d s)) ∧ Fo w bf bc m k last w' ∧ Below W.heap.size W w' := by
  obtain ⟨cs, ds, f⟩ := h.it
  refine (sSure_any f d s).mono ?_
  rintro e w' ⟨rfl, b⟩
  exact ⟨rfl, h.call b, b⟩
theorem Fo.list (h : Fo w bf bc m k last W) (hm : m.check = 0) (d : Int) :
    Calls Tryz.prog 20 #[.pointer (some ⟨bf, 0, none⟩), .int .i64 d] W fun e w' => ∃ v, e = .returned v ∧ w'.ownsRow W.heap.size 9 1 v (Img.snames m d).length (strs (Img.snames m d)) ∧ Fo w bf bc m k last w' ∧ Below W.heap.size W w' := by
  obtain ⟨cs, ds, f⟩ := h.it
  refine (sList_any f hm d).mono ?_
  rintro e w' ⟨v, rfl, ho, b⟩
  exact ⟨v, rfl, ho, h.call b, b⟩
theorem Fo.cells (h : Fo w bf bc m k last W) : W.cell? ⟨bf, 0, none⟩ = some (.pointer (some ⟨bc, 0, none⟩)) ∧ bf < W.heap.size ∧ bc < W.heap.size ∧ HasAt W bc 0 m ∧ HasAt W bc 94 k := by
  obtain ⟨cs, ds, f⟩ := h.it
  exact ⟨f.ptr, f.flt, f.clt, f.hasNow, f.hasDisk⟩
end
namespace Sft
def sA : ByteArray := ⟨#[97]⟩
def sB : ByteArray := ⟨#[98]⟩
def sX : ByteArray := ⟨#[120]⟩
def y1 : Stp := ⟨1, 0, 0, 0, sA, Idl.none0, Idl.none0⟩
def y2 : Stp := ⟨5, 0, 0, 0, sA, Idl.none0, sX⟩
def y3 : Stp := ⟨2, 0, 2, 0, sA, sB, Idl.none0⟩
def M1 : Img := Img.sstep blankI blankI 0 y1
def M2 : Img := Img.sstep M1 blankI 1 y2
def M3 : Img := Img.sstep M2 blankI 1 y3
theorem k1 : Img.scode blankI blankI y1 = 0 := by kernel_rfl
theorem k2 : Img.scode M1 blankI y2 = 0 := by kernel_rfl
theorem k3 : Img.scode M2 blankI y3 = 0 := by kernel_rfl
theorem l1 : Img.slast blankI blankI 0 y1 = 1 := by kernel_rfl
theorem l2 : Img.slast M1 blankI 1 y2 = 1 := by kernel_rfl
theorem l3 : Img.slast M2 blankI 1 y3 = 1 := by kernel_rfl
theorem k4 : Img.sreadC M3 2 sB 0 = 0 := by kernel_rfl
theorem k5 : Img.sreadB M3 2 sB 0 = true := by kernel_rfl
theorem k6 : Img.sreadT M3 2 sB 0 = sX := by kernel_rfl
theorem k7 : Img.ssame M3 0 sA 2 sB = true := by kernel_rfl
theorem k8 : Img.ssure M3 blankI 0 sA = false := by kernel_rfl
theorem k9 : Img.snames M3 2 = [sB] := by kernel_rfl
theorem k10 : M3.links 0 = 2 := by kernel_rfl
theorem blank_ex : blankI.exact = true := by kernel_rfl
theorem blank_dead : Img.anyB blankI.live 8 = false := by kernel_rfl
theorem good0 : Img.Good blankI 0 := ⟨Img.ex_iff.1 blank_ex, Int.le_refl _, fun n hn hl => by rw [Img.anyB_false.1 blank_dead n hn] at hl; cases hl⟩
theorem good1 : Img.Good M1 1 := by have := Img.good_step (disk := blankI) good0 y1; rw [l1] at this; exact this
theorem good2 : Img.Good M2 1 := by have := Img.good_step (disk := blankI) good1 y2; rw [l2] at this; exact this
theorem good3 : Img.Good M3 1 := by have := Img.good_step (disk := blankI) good2 y3; rw [l3] at this; exact this
theorem small (n : Nat) (h : n ≤ 1) : n ≤ maxLen := by unfold maxLen; omega
set_option maxHeartbeats 4000000 in
set_option maxRecDepth 100000 in
theorem begun_any (w : World) : Calls Tryz.prog 8 #[] w fun e w' => e = .returned (.bool true) ∧ Below w.heap.size w w' := by
  have bz := build_img
  have s0 : Idl.none0.size ≤ maxLen := small _ (Nat.zero_le _)
  have sa : sA.size ≤ maxLen := small _ (Nat.le_refl _)
  have sb : sB.size ≤ maxLen := small _ (Nat.le_refl _)
  have sx : sX.size ≤ maxLen := small _ (Nat.le_refl _)
  have D1 := hide fun bf bc W (r : Fo w bf bc blankI blankI 0 W) => r.step good0 (by omega) y1 sa s0 s0
  have D2 := hide fun bf bc W (r : Fo w bf bc M1 blankI 1 W) => r.step good1 (by omega) y2 sa s0 sx
  have D3 := hide fun bf bc W (r : Fo w bf bc M2 blankI 1 W) => r.step good2 (by omega) y3 sa sb s0
  have D4 := hide fun bf bc W (r : Fo w bf bc M3 blankI 1 W) => r.read good3.ex.ok 2 sB sb 0
  have D5 := hide fun bf bc W (r : Fo w bf bc M3 blankI 1 W) => r.same 0 sA 2 sB
  have D6 := hide fun bf bc W (r : Fo w bf bc M3 blankI 1 W) => r.sure 0 sA
  have D7 := hide fun bf bc W (r : Fo w bf bc M3 blankI 1 W) => r.list good3.ex.ok 2
  rw [k1, l1, show Img.sstep blankI blankI 0 y1 = M1 from rfl] at D1
  rw [k2, l2, show Img.sstep M1 blankI 1 y2 = M2 from rfl] at D2
  rw [k3, l3, show Img.sstep M2 blankI 1 y3 = M3 from rfl] at D3
  rw [k4, k5, k6] at D4
  rw [k7] at D5
  rw [k8] at D6
  rw [k9] at D7
  have K10 := hide k10
  simp only [stpA, y1, y2, y3, sA, sB, sX, Idl.none0] at D1 D2 D3 D4 D5 D6 D7
  clear s0 sa sb sx
  generalize M3 = m3 at D3 D4 D5 D6 D7 K10
  generalize M2 = m2 at D2 D3
  generalize M1 = m1 at D1 D2
  go_enter Tryz.func8, Tryz.ntmps8
  go_wp2_with fail
  refine (Fo.new w (Below.refl _ w)).mono ?_
  rintro e w1 ⟨bf, bc, rfl, _, _, h1, _⟩
  have H1 := hide h1
  clear h1
  go_wp2_with fail
  refine (sOf_nil zeroCells _ zero_kinds.isImg (by rw [zero_check]; simp) w1).mono ?_
  rintro e w2 ⟨rfl, b2⟩
  have H2 := hide ((unhide H1).call b2)
  have d1 := unhide D1 bf bc w2 (unhide H2)
  clear b2 H1
  go_wp2_with fail
  refine d1.mono ?_
  rintro e w3 ⟨rfl, h3, _⟩
  have d2 := unhide D2 bf bc w3 h3
  clear h3 d1 H2
  go_wp2_with fail
  refine d2.mono ?_
  rintro e w4 ⟨rfl, h4, _⟩
  have d3 := unhide D3 bf bc w4 h4
  clear h4 d2
  go_wp2_with fail
  refine d3.mono ?_
  rintro e w5 ⟨rfl, h5, _⟩
  have d4 := unhide D4 bf bc w5 h5
  clear h5 d3
  go_wp2_with fail
  refine d4.mono ?_
  rintro e w6 ⟨rfl, h6, _⟩
  have H6 := hide h6
  have d5 := unhide D5 bf bc w6 h6
  have d6 := unhide D6 bf bc w6 h6
  clear h6 d4
  go_wp2_with fail
  refine d5.mono ?_
  rintro e wq ⟨rfl, e9⟩
  rw [e9]
  clear e9 wq d5
  go_wp2_with fail
  refine d6.mono ?_
  rintro e w7 ⟨rfl, h7, _⟩
  have d7 := unhide D7 bf bc w7 h7
  clear h7 d6
  go_wp2_with fail
  refine d7.mono ?_
  rintro e w8 ⟨v, rfl, ho, h8, b8⟩
  have ho2 : (w8.alloc (.cells #[.string ⟨#[98]⟩] 9)).ownsRow 0 9 1 (.slice (some ⟨w8.heap.size, 0, none⟩) 1 1) ([⟨#[98]⟩] : List ByteArray).length (strs [⟨#[98]⟩]) := ⟨rfl, .inr ⟨w8.heap.size, 1, _, rfl, Nat.zero_le _, heap_alloc_last _ _, Nat.le_refl _, small _ (Nat.le_refl _), rfl, rfl⟩⟩
  have ST := hide (SameTexts_any (World.ownsRow.alloc ho (.cells #[.string ⟨#[98]⟩] 9)) ho2 (by simp))
  have H8 := hide (h8.call ((Below.refl _ _).alloc (Nat.le_refl _) (.cells #[.string ⟨#[98]⟩] 9)))
  clear ho ho2 h8 b8 d7
  go_wp2_with fail
  refine (unhide ST).mono ?_
  rintro e w9 ⟨rfl, b9⟩
  have H9 := hide ((unhide H8).call b9)
  obtain ⟨c0, c1, c2, c3, _⟩ := (unhide H9).cells
  have c4 : w9.cell? ⟨bc, 2, none⟩ = some (.int .i64 2) := by
    have := c3.links 0 (by omega)
    rw [unhide K10] at this
    simpa using this
  clear b9 c3 H8
  go_wp2_with fail
  go_ret
  exact ⟨rfl, (unhide H9).bel⟩
end Sft
end Go.Proofs.YtmlhalhjfcfagabGreat
