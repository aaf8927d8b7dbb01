/-
  A desk in memory: a builder of what is told, and a life; the Builder's methods on it.
-/
import Derived.Test.YtfpfpnhpbnnmfadGreatDoorXbm
import Derived.Test.YtfpfpnhpbnnmfadGreatDoorXbj
set_option linter.unusedVariables false
namespace Go.Proofs.YtfpfpnhpbnnmfadGreatDoor
open Go.RowKit
open Idl (Stp chk stpA strs)
/-- no row of bytes -/
def NB (W : World) (j : Nat) : Prop := ∀ cs f, W.heap[j]? ≠ some (.cells cs 5 f)
theorem nb_of {W : World} {j : Nat} {cs : Array Value} {t : TypeId} {f : Nat × Nat} (h : W.heap[j]? = some (.cells cs t f)) (ht : t ≠ 5) : NB W j := fun _ _ e => by
  rw [h] at e; cases e; exact ht rfl
theorem nb_same {W W' : World} {j : Nat} (h : NB W j) (e : W'.heap[j]? = W.heap[j]?) : NB W' j := fun cs f => by rw [e]; exact h cs f
/-- a call that tells: it changes the desk's own row, and rows of bytes from B on -/
structure Df (B bd : Nat) (W W' : World) : Prop where
  os : W'.os = W.os
  tape : W'.tape = W.tape
  output : W'.output = W.output
  size : W.heap.size ≤ W'.heap.size
  old : ∀ j, j < W.heap.size → j ≠ bd → (j < B ∨ NB W j) → W'.heap[j]? = W.heap[j]?
theorem Df.refl (B bd : Nat) (W : World) : Df B bd W W := ⟨rfl, rfl, rfl, Nat.le_refl _, fun _ _ _ _ => rfl⟩
theorem Df.of_below {B bd : Nat} {W W' : World} (h : Below W.heap.size W W') : Df B bd W W' := ⟨h.os, h.tape, h.output, h.size, fun j hj _ _ => h.block j hj⟩
theorem Df.trans {B bd : Nat} {W W1 W2 : World} (h : Df B bd W W1) (k : Df B bd W1 W2) : Df B bd W W2 := by
  refine ⟨k.os.trans h.os, k.tape.trans h.tape, k.output.trans h.output, Nat.le_trans h.size k.size, fun j hj hn ho => ?_⟩
  have e := h.old j hj hn ho
  rw [k.old j (Nat.lt_of_lt_of_le hj h.size) hn (by rcases ho with z | z; exact .inl z; exact .inr (nb_same z e)), e]
theorem Df.below {B bd n : Nat} {W W' : World} (h : Df B bd W W') (hn : n ≤ W.heap.size) (hB : n ≤ B) (hd : n ≤ bd) : Below n W W' :=
  ⟨h.os, h.tape, h.output, h.size, fun j hj => h.old j (by omega) (by omega) (.inl (by omega))⟩
/-- a desk: made behind w, its life's state S, what it has told in this Do -/
structure Dk (w : World) (B bd bl bf bc : Nat) (S : Lv) (l : List UInt8) (W : World) : Prop where
  lo : Lo w bl bf bc S W
  it : ∃ p v, (p = .pointer none ∨ p = .pointer (some ⟨bd, 0, none⟩)) ∧ W.heap[bd]? = some (.cells #[p, v, .pointer (some ⟨bl, 0, none⟩)] 46 (0, 0)) ∧ W.ownsRow B 5 1 v l.length (Lib.byteCells l) ∧ (l = [] → v = .slice none 0 0)
  d0 : w.heap.size ≤ bd
  w0 : w.heap.size ≤ B
  b0 : B ≤ W.heap.size
section
variable {w W W' : World} {B bd bl bf bc : Nat} {S : Lv} {l : List UInt8}
theorem Dk.lt (h : Dk w B bd bl bf bc S l W) : bd < W.heap.size := by
  obtain ⟨p, v, _, hb, _⟩ := h.it
  exact (Array.getElem?_eq_some_iff.1 hb).1
theorem Dk.lif (h : Dk w B bd bl bf bc S l W) : W.cell? ⟨bd, 2, none⟩ = some (.pointer (some ⟨bl, 0, none⟩)) := by
  obtain ⟨p, v, _, hb, _⟩ := h.it
  rw [Lib.cell_of_heap hb]; rfl
theorem Dk.nb (h : Dk w B bd bl bf bc S l W) : NB W bd := by
  obtain ⟨p, v, _, hb, _⟩ := h.it
  exact nb_of hb (by decide)
theorem Lo.nbl (h : Lo w bl bf bc S W) : NB W bl := nb_of h.root (by decide)
theorem Lo.nbf (h : Lo w bl bf bc S W) : NB W bf := by
  obtain ⟨cs, ds, f⟩ := h.fo.it
  exact nb_of f.root (by decide)
theorem Lo.nbc (h : Lo w bl bf bc S W) : NB W bc := by
  obtain ⟨cs, ds, f⟩ := h.fo.it
  exact nb_of f.row (by decide)
theorem Lo.flt (h : Lo w bl bf bc S W) : bf < W.heap.size := h.fo.cells.2.1
theorem Lo.clt (h : Lo w bl bf bc S W) : bc < W.heap.size := h.fo.cells.2.2.1
theorem row_ne {W : World} {i j : Nat} {cs ds : Array Value} {t u : TypeId} {f g : Nat × Nat} (h1 : W.heap[i]? = some (.cells cs t f)) (h2 : W.heap[j]? = some (.cells ds u g)) (ht : t ≠ u) : i ≠ j := fun e => by
  subst e; rw [h1] at h2; cases h2; exact ht rfl
theorem Dk.ne (h : Dk w B bd bl bf bc S l W) : bd ≠ bl ∧ bd ≠ bf ∧ bd ≠ bc := by
  obtain ⟨p, v, _, hb, _⟩ := h.it
  obtain ⟨cs, ds, f⟩ := h.lo.fo.it
  exact ⟨row_ne hb h.lo.root (by decide), row_ne hb f.root (by decide), row_ne hb f.row (by decide)⟩
theorem Lo.same (h : Lo w bl bf bc S W) (hb : Below w.heap.size W W') (h1 : W'.heap[bl]? = W.heap[bl]?) (h2 : W'.heap[bf]? = W.heap[bf]?) (h3 : W'.heap[bc]? = W.heap[bc]?) : Lo w bl bf bc S W' := by
  obtain ⟨cs, ds, f⟩ := h.fo.it
  exact ⟨⟨⟨cs, ds, f.keep h2 h3⟩, h.fo.bel.trans hb, h.fo.f0, h.fo.c0⟩, h1.trans h.root, h.l0, h.nf, h.nc⟩
theorem Lo.df (h : Lo w bl bf bc S W) (hd : Df B bd W W') (hw : w.heap.size ≤ B) (hbd : w.heap.size ≤ bd) (hn : bd ≠ bl ∧ bd ≠ bf ∧ bd ≠ bc) : Lo w bl bf bc S W' :=
  h.same (hd.below h.bel.size hw hbd) (hd.old _ h.lt hn.1.symm (.inr h.nbl)) (hd.old _ h.flt hn.2.1.symm (.inr h.nbf)) (hd.old _ h.clt hn.2.2.symm (.inr h.nbc))
theorem own_nb {v : Value} {n : Nat} {xs : List Value} {j : Nat} (h : W.ownsRow B 5 1 v n xs) (hj : NB W j) : v.ownBlock ≠ some j := by
  rcases h.2 with ⟨rfl, _⟩ | ⟨g, cap, cur, rfl, _, hg, _⟩
  · simp [Value.ownBlock]
  · intro e
    simp only [Value.ownBlock, Option.some.injEq] at e
    subst e
    exact hj _ _ hg
theorem own_ge {v : Value} {n : Nat} {xs : List Value} {j : Nat} (h : W.ownsRow B 5 1 v n xs) (hj : j < B) : v.ownBlock ≠ some j := by
  rcases h.2 with ⟨rfl, _⟩ | ⟨g, cap, cur, rfl, hb, hg, _⟩
  · simp [Value.ownBlock]
  · intro e
    simp only [Value.ownBlock, Option.some.injEq] at e
    omega
/-- behind a call that leaves all as it was -/
theorem Dk.call (h : Dk w B bd bl bf bc S l W) (hb : Below W.heap.size W W') : Dk w B bd bl bf bc S l W' := by
  obtain ⟨p, v, hp, h1, h2, h3⟩ := h.it
  exact ⟨h.lo.call hb, ⟨p, v, hp, by rw [hb.block _ h.lt]; exact h1, Idl.ownsRow_of_block h2 (fun k hk => hb.block k (h2.lt k hk).2), h3⟩, h.d0, h.w0, Nat.le_trans h.b0 hb.size⟩
theorem Dk.rebase (h : Dk w B bd bl bf bc S [] W) {C : Nat} (h1 : w.heap.size ≤ C) (h2 : C ≤ W.heap.size) : Dk w C bd bl bf bc S [] W := by
  obtain ⟨p, v, hp, hb, _, hv⟩ := h.it
  obtain rfl := hv rfl
  exact ⟨h.lo, ⟨p, _, hp, hb, World.ownsRow_nil _ _ _ _, fun _ => rfl⟩, h.d0, h1, h2⟩
/-- the life went on -/
theorem Dk.life (h : Dk w B bd bl bf bc S l W) {T : Lv} {bf' bc' : Nat} (hl : Lo w bl bf' bc' T W') (hc : Lc bl bf bc bf' bc' W W') : Dk w B bd bl bf' bc' T l W' := by
  obtain ⟨p, v, hp, h1, h2, h3⟩ := h.it
  have hn := h.ne
  refine ⟨hl, ⟨p, v, hp, by rw [hc.old _ h.lt hn.1 hn.2.1 hn.2.2]; exact h1, Idl.ownsRow_of_block h2 (fun k hk => hc.old k (h2.lt k hk).2 (fun e => own_nb h2 h.lo.nbl (e ▸ hk)) (fun e => own_nb h2 h.lo.nbf (e ▸ hk)) (fun e => own_nb h2 h.lo.nbc (e ▸ hk))), h3⟩, h.d0, h.w0, Nat.le_trans h.b0 hc.size⟩
theorem dk_lies : liesAt Tryz.prog Tryz.prog.depth 46 (3 / Tryz.prog.cellsOf 46) 0 44 1 = true := by kernel_rfl
set_option maxHeartbeats 1000000 in
set_option maxRecDepth 100000 in
theorem dCopyFresh (b : Nat) (w : World) (h0 : w.cell? ⟨b, 0, none⟩ = some (.pointer none)) (hsh : w.shape? b = some (46, 3)) (hfz : w.frozen? ⟨b, 0, none⟩ = false) :
    Calls Tryz.prog 77 #[.pointer (some ⟨b, 0, none⟩)] w fun e w' => e = .returned (.tuple #[]) ∧ w' = w.setCell ⟨b, 0, none⟩ (.pointer (some ⟨b, 0, none⟩)) := by
  obtain ⟨j, hj, hjs⟩ := bld_info
  go_enter Tryz.func77, Tryz.ntmps77
  go_wp2
  rw [Lib.run_to_unsafe w ⟨b, 0, none⟩ Tryz.underlying41 Tryz.underlying166 hj (by rw [hjs]; decide) hsh (Nat.zero_lt_succ 2)]
  simp only [Result.andThen]
  rw [Oper.upon_value]
  go_wp2
  rw [run_callFunc_extern Tryz.func107 (by kernel_rfl) (by kernel_rfl) (by kernel_rfl) (e := Extern.AbiNoEscape.same) (by kernel_rfl)]
  rw [Lib.run_noEscape]
  simp only [Result.andThen]
  rw [Oper.upon_value]
  go_wp2
  rw [Lib.run_from_unsafe w ⟨b, 0, none⟩ Tryz.underlying166 Tryz.underlying41 hj hsh dk_lies]
  simp only [Result.andThen]
  rw [Oper.upon_value]
  go_wp2
  go_end0
  exact ⟨rfl, rfl⟩
theorem df_set (o : Nat) (v : Value) : Df B bd W (W.setCell ⟨bd, o, none⟩ v) :=
  ⟨rfl, rfl, rfl, by simp [World.setCell], fun j _ hn _ => Below.heap_setCell _ _ _ _ (fun e => hn e)⟩
theorem df_grown {v : Value} (hg : W.grownBy W' v.ownBlock) {n : Nat} {xs : List Value} (ho : W.ownsRow B 5 1 v n xs) : Df B bd W W' :=
  ⟨hg.os, hg.tape, hg.output, hg.size, fun j hj hn hB => hg.block j hj (fun e => by rcases hB with z | z; exact own_ge ho z e.symm; exact own_nb ho z e.symm)⟩
theorem heap_set {g j : Nat} {cs : Array Value} {t : TypeId} {f : Nat × Nat} (h : W.heap[g]? = some (.cells cs t f)) (v : Value) : (W.setCell ⟨g, j, none⟩ v).heap[g]? = some (.cells (cs.setIfInBounds j v) t f) := by
  simp [World.setCell, Array.getElem?_modify, h]
theorem own_set {v : Value} {n : Nat} {xs : List Value} (h : W.ownsRow B 5 1 v n xs) (hn : NB W bd) (o : Nat) (u : Value) : (W.setCell ⟨bd, o, none⟩ u).ownsRow B 5 1 v n xs :=
  Idl.ownsRow_of_block h (fun k hk => Below.heap_setCell _ _ _ _ (fun e => own_nb h hn (show v.ownBlock = some bd by rw [hk, e])))
/-- behind copyCheck: it holds its own address -/
theorem dCopy_any (h : Dk w B bd bl bf bc S l W) :
    Calls Tryz.prog 77 #[.pointer (some ⟨bd, 0, none⟩)] W fun e w' => e = .returned (.tuple #[]) ∧ Df B bd W w' ∧ ∃ v, w'.heap[bd]? = some (.cells #[.pointer (some ⟨bd, 0, none⟩), v, .pointer (some ⟨bl, 0, none⟩)] 46 (0, 0)) ∧ w'.ownsRow B 5 1 v l.length (Lib.byteCells l) ∧ (l = [] → v = .slice none 0 0) := by
  obtain ⟨p, v, hp, h1, h2, h3⟩ := h.it
  rcases hp with rfl | rfl
  · refine (dCopyFresh bd W (by rw [Lib.cell_of_heap h1]; rfl) (by simp [World.shape?, h1]) (Lib.frozen_of_heap h1 0)).mono ?_
    rintro e w' ⟨rfl, rfl⟩
    have D : Df B bd W (W.setCell ⟨bd, 0, none⟩ (.pointer (some ⟨bd, 0, none⟩))) := df_set 0 _
    exact ⟨rfl, D, v, by rw [heap_set h1]; rfl, own_set h2 h.nb 0 _, h3⟩
  · refine (copyUsed bd W (by rw [Lib.cell_of_heap h1]; rfl)).mono ?_
    rintro e w' ⟨rfl, rfl⟩
    exact ⟨rfl, Df.refl _ _ _, v, h1, h2, h3⟩
/-- a desk anew, behind a store of its buffer -/
theorem Dk.put (h : Dk w B bd bl bf bc S l W) {W2 : World} (hd : Df B bd W W2) {q v u : Value} (hq : q = .pointer none ∨ q = .pointer (some ⟨bd, 0, none⟩)) (hb : W2.heap[bd]? = some (.cells #[q, v, .pointer (some ⟨bl, 0, none⟩)] 46 (0, 0))) {k : List UInt8} (ho : W2.ownsRow B 5 1 u k.length (Lib.byteCells k)) (hk : k = [] → u = .slice none 0 0) :
    Dk w B bd bl bf bc S k (W2.setCell ⟨bd, 1, none⟩ u) ∧ Df B bd W (W2.setCell ⟨bd, 1, none⟩ u) := by
  have D : Df B bd W (W2.setCell ⟨bd, 1, none⟩ u) := hd.trans (df_set 1 u)
  exact ⟨⟨h.lo.df D h.w0 h.d0 h.ne, ⟨q, u, hq, by rw [heap_set hb]; rfl, own_set ho (nb_of hb (by decide)) 1 u, hk⟩, h.d0, h.w0, Nat.le_trans h.b0 D.size⟩, D⟩
set_option maxHeartbeats 2000000 in
set_option maxRecDepth 100000 in
theorem dByte_any (c : UInt8) (h : Dk w B bd bl bf bc S l W) (hlen : l.length + 1 ≤ 140737488355328) :
    Calls Tryz.prog 51 #[.pointer (some ⟨bd, 0, none⟩), .int .u8 (c.toNat : Int)] W fun e w' => e = .returned .nilIface ∧ Dk w B bd bl bf bc S (l ++ [c]) w' ∧ Df B bd W w' := by
  obtain ⟨i0, hi, hz0, hz1, hz2⟩ := byte_info
  have hc := dCopy_any h
  have HD := hide h
  have hBW := h.b0
  clear h
  obtain ⟨cz, hcz⟩ : ∃ z : Int, z = (c.toNat : Int) := ⟨_, rfl⟩
  rw [← hcz]
  have HC := hide hcz
  clear hcz
  go_enter Tryz.func51, Tryz.ntmps51
  go_wp2_with (go_at_call 77; refine hc.mono ?_)
  rintro e w1 ⟨rfl, hb1, v, hbk, hown, hnil⟩
  have c0 : w1.cell? ⟨bd, 0, none⟩ = some (.pointer (some ⟨bd, 0, none⟩)) := by rw [Lib.cell_of_heap hbk]; rfl
  have c1 : w1.cell? ⟨bd, 1, none⟩ = some v := by rw [Lib.cell_of_heap hbk]; rfl
  go_wp2_with (at_builtin; refine wpList_append_own _ rfl _ _ 42 rfl B 5 i0 (.int .u8 0) 1 1 Tryz.underlying42 hi hz0 hz1 hz2 rfl (by decide) _ _ _ rfl (hown.alloc _) ⟨w1.heap.size, 0, none⟩ 1 1 [.int .u8 cz] rfl rfl ?c1 ?c2 ?c3 ?c4 ?c5 ?_)
  case c1 =>
    intro j u hj
    match j, hj with
    | 0, hj => simp at hj; subst hj; simp [Addr.add]
  case c2 => intro u hu; simp at hu; subst hu; rfl
  case c3 => unfold maxLen; omega
  case c4 => omega
  case c5 => have := hb1.size; simp; omega
  intro v' w2 hown' hgrow _
  have hlt : bd < w1.heap.size := (Array.getElem?_eq_some_iff.1 hbk).1
  have D2 : Df B bd W w2 := (hb1.trans (Df.of_below ((Below.refl _ w1).alloc (Nat.le_refl _) _))).trans (df_grown hgrow (hown.alloc _))
  have hb2 : w2.heap[bd]? = some (.cells #[.pointer (some ⟨bd, 0, none⟩), v, .pointer (some ⟨bl, 0, none⟩)] 46 (0, 0)) := by
    rw [hgrow.block bd (by simp; omega) (fun e => own_nb hown (nb_of hbk (by decide)) e.symm), Lib.alloc_old w1 _ bd hlt]
    exact hbk
  have d0 : w2.cell? ⟨bd, 0, none⟩ = some (.pointer (some ⟨bd, 0, none⟩)) := by rw [Lib.cell_of_heap hb2]; rfl
  have d1 : w2.cell? ⟨bd, 1, none⟩ = some v := by rw [Lib.cell_of_heap hb2]; rfl
  have f1 : w2.frozen? ⟨bd, 1, none⟩ = false := Lib.frozen_of_heap hb2 1
  obtain ⟨g, cap, rfl⟩ : ∃ g cap, v' = .slice (some ⟨g, 0, none⟩) (l.length + 1) cap := by
    rcases hown'.2 with ⟨_, h0⟩ | ⟨g, cap, cur, hv, _⟩
    · omega
    · exact ⟨g, cap, hv⟩
  have EC := hide (show Lib.byteCells l ++ [Value.int .u8 cz] = Lib.byteCells (l ++ [c]) by rw [unhide HC]; simp [Lib.byteCells])
  rw [unhide EC, show l.length + 1 = (l ++ [c]).length by simp] at hown'
  have PP := hide ((unhide HD).put D2 (.inr rfl) hb2 hown' (fun z => by simp at z))
  rw [show (l ++ [c]).length = l.length + 1 by simp] at PP
  clear hown' hgrow hown hnil D2 hb2 hbk hb1 EC HC
  go_wp2
  go_ret
  exact ⟨rfl, unhide PP⟩
set_option maxHeartbeats 2000000 in
set_option maxRecDepth 100000 in
theorem dStr_any (s : ByteArray) (h : Dk w B bd bl bf bc S l W) (hlen : l.length + s.size ≤ 140737488355328) :
    Calls Tryz.prog 50 #[.pointer (some ⟨bd, 0, none⟩), .string s] W fun e w' => e = .returned (.tuple #[.int .i64 s.size, .nilIface]) ∧ Dk w B bd bl bf bc S (l ++ s.toList) w' ∧ Df B bd W w' := by
  obtain ⟨i0, hi, hz0, hz1, hz2⟩ := byte_info
  have hc := dCopy_any h
  have HD := hide h
  have hBW := h.b0
  clear h
  go_enter Tryz.func50, Tryz.ntmps50
  go_wp2_with (go_at_call 77; refine hc.mono ?_)
  rintro e w1 ⟨rfl, hb1, v, hbk, hown, hnil⟩
  have c0 : w1.cell? ⟨bd, 0, none⟩ = some (.pointer (some ⟨bd, 0, none⟩)) := by rw [Lib.cell_of_heap hbk]; rfl
  have c1 : w1.cell? ⟨bd, 1, none⟩ = some v := by rw [Lib.cell_of_heap hbk]; rfl
  go_wp2_with (at_builtin; refine Lib.wpList_append_own_string _ rfl _ _ 42 9 rfl B 5 i0 Tryz.underlying42 Tryz.underlying9 hi hz0 hz1 hz2 _ _ _ rfl hown s rfl ?c3 ?c4 ?c5 ?_)
  case c3 => unfold maxLen; omega
  case c4 => omega
  case c5 => have := hb1.size; omega
  intro v' w2 hown' hgrow hiff
  have hlt : bd < w1.heap.size := (Array.getElem?_eq_some_iff.1 hbk).1
  have D2 : Df B bd W w2 := hb1.trans (df_grown hgrow hown)
  have hb2 : w2.heap[bd]? = some (.cells #[.pointer (some ⟨bd, 0, none⟩), v, .pointer (some ⟨bl, 0, none⟩)] 46 (0, 0)) := by
    rw [hgrow.block bd hlt (fun e => own_nb hown (nb_of hbk (by decide)) e.symm)]
    exact hbk
  have d0 : w2.cell? ⟨bd, 0, none⟩ = some (.pointer (some ⟨bd, 0, none⟩)) := by rw [Lib.cell_of_heap hb2]; rfl
  have d1 : w2.cell? ⟨bd, 1, none⟩ = some v := by rw [Lib.cell_of_heap hb2]; rfl
  have f1 : w2.frozen? ⟨bd, 1, none⟩ = false := Lib.frozen_of_heap hb2 1
  have ES : s.toList.length = s.size := by rw [ByteArray.toList_eq]; rfl
  have NK : l ++ s.toList = [] → v' = .slice none 0 0 := fun z => by
    have z2 := List.append_eq_nil_iff.1 z
    have z3 : s.size = 0 := by rw [← ES, z2.2]; rfl
    exact hiff.2 ⟨hnil z2.1, by simpa using z3⟩
  have ho2 : w2.ownsRow B 5 1 v' (l ++ s.toList).length (Lib.byteCells (l ++ s.toList)) := by
    rw [show Lib.byteCells (l ++ s.toList) = Lib.byteCells l ++ Lib.strCells s by rw [ByteArray.toList_eq, Lib.byteCells_append]; rfl, List.length_append, ES]
    exact hown'
  obtain ⟨ao, n', cap, rfl⟩ : ∃ ao n' cap, v' = .slice ao n' cap := by
    rcases hown'.2 with ⟨hv, _⟩ | ⟨g, cap, cur, hv, _⟩
    · exact ⟨_, _, _, hv⟩
    · exact ⟨_, _, _, hv⟩
  have PP := hide ((unhide HD).put D2 (.inr rfl) hb2 ho2 NK)
  clear hown' hgrow hown hnil D2 hb2 hbk hb1 ho2 NK hiff ES
  go_wp2
  go_ret2
  exact ⟨rfl, unhide PP⟩
set_option maxHeartbeats 2000000 in
set_option maxRecDepth 100000 in
theorem dString_none {p : Value} (hbk : W.heap[bd]? = some (.cells #[p, .slice none 0 0, .pointer (some ⟨bl, 0, none⟩)] 46 (0, 0))) :
    Calls Tryz.prog 20 #[.pointer (some ⟨bd, 0, none⟩)] W fun e w' => e = .returned (.string ⟨#[]⟩) ∧ Below W.heap.size W w' := by
  have c1 : W.drew.cell? ⟨bd, 1, none⟩ = some (.slice none 0 0) := by
    have : W.drew.heap[bd]? = some (.cells #[p, .slice none 0 0, .pointer (some ⟨bl, 0, none⟩)] 46 (0, 0)) := hbk
    rw [Lib.cell_of_heap this]; rfl
  have hSD : (Builtin.unsafeSliceData_ #[42] 93 #[.slice none 0 0]).run Tryz.prog W.drew = .ok (.pointer none) W.drew := Lib.run_unsafeSliceData_nil _ _ _ _ _
  have hUS : (Builtin.unsafeString_ #[93, 3] 9 #[.pointer none, .int .i64 0]).run Tryz.prog W.drew = .ok (.string ⟨#[]⟩) W.drew := Lib.run_unsafeString_none _ _ _ _ _
  have mixed : Tryz.prog.follows Departure.mixedOrders = true := by kernel_rfl
  go_enter Tryz.func20, Tryz.ntmps20
  go_wp2
  go_region_o
  all_goals (go_wp2; go_ret; exact ⟨rfl, (Below.refl _ W).drew⟩)
theorem df_freeze {g n : Nat} {cs : Array Value} {f : Nat × Nat} (hB : B ≤ g) (hg : W.heap[g]? = some (.cells cs 5 f)) : Df B bd W (W.drew.freeze ⟨g, 0, none⟩ n) := by
  have e : ∀ j, j ≠ g → (W.drew.freeze ⟨g, 0, none⟩ n).heap[j]? = W.heap[j]? := fun j hj => by
    unfold World.freeze
    split
    · rfl
    · simp only [Array.getElem?_modify]
      rw [if_neg (by omega)]; rfl
  have b := Lib.below_freeze (Below.drew (Below.refl 0 W)) (p := ⟨g, 0, none⟩) (Nat.zero_le _) n
  exact ⟨b.os, b.tape, b.output, b.size, fun j _ _ ho => e j (fun z => by subst z; rcases ho with y | y; omega; exact y _ _ hg)⟩
set_option maxHeartbeats 2000000 in
set_option maxRecDepth 100000 in
theorem dString_some (h : Dk w B bd bl bf bc S l W) (h0 : l ≠ []) :
    Calls Tryz.prog 20 #[.pointer (some ⟨bd, 0, none⟩)] W fun e w' => e = .returned (.string ⟨l.toArray⟩) ∧ Df B bd W w' ∧ w'.heap[bd]? = W.heap[bd]? := by
  have hl0 : l.length ≠ 0 := by simpa using h0
  have hnb := h.nb
  obtain ⟨p, v, hp, hbk, hown, _⟩ := h.it
  obtain ⟨g, cap, cur, rfl, hbg, hg, hnc, hcm, hcs, htake⟩ : ∃ g cap cur, v = .slice (some ⟨g, 0, none⟩) l.length cap ∧ B ≤ g ∧ W.heap[g]? = some (.cells cur 5) ∧ l.length ≤ cap ∧ cap ≤ maxLen ∧ cur.size = cap * 1 ∧ cur.toList.take (l.length * 1) = Lib.byteCells l := by
    rcases hown.2 with ⟨_, hz⟩ | ⟨g, cap, cur, hv, r⟩
    · exact absurd hz hl0
    · exact ⟨g, cap, cur, hv, r⟩
  have c1 : W.drew.cell? ⟨bd, 1, none⟩ = some (.slice (some ⟨g, 0, none⟩) l.length cap) := by
    have : W.drew.heap[bd]? = some (.cells #[p, .slice (some ⟨g, 0, none⟩) l.length cap, .pointer (some ⟨bl, 0, none⟩)] 46 (0, 0)) := hbk
    rw [Lib.cell_of_heap this]; rfl
  have hSD : (Builtin.unsafeSliceData_ #[42] 93 #[.slice (some ⟨g, 0, none⟩) l.length cap]).run Tryz.prog W.drew = .ok (.pointer (some ⟨g, 0, none⟩)) W.drew :=
    Lib.run_unsafeSliceData_row _ _ _ _ _ _ (by omega)
  have hcb : Tryz.prog.cellsOf 5 = 1 := by kernel_rfl
  have hUS : (Builtin.unsafeString_ #[93, 3] 9 #[.pointer (some ⟨g, 0, none⟩), .int .i64 l.length]).run Tryz.prog W.drew = .ok (.string ⟨l.toArray⟩) (W.drew.freeze ⟨g, 0, none⟩ l.length) := by
    refine Lib.run_unsafeString_row W.drew 93 3 9 5 Tryz.underlying93 hcb g cur.size (by have hg' : W.drew.heap[g]? = some (.cells cur 5) := hg; simp [World.shape?, hg']) l h0 (by omega) (by unfold maxLen at hcm; omega) ?_
    intro j x hx
    have := hown.cells (g := g) rfl j (.int .u8 x.toNat) (by simp [Lib.byteCells, hx])
    exact this
  have DD : Df B bd W (W.drew.freeze ⟨g, 0, none⟩ l.length) := df_freeze hbg hg
  have BD := hide (show (W.drew.freeze ⟨g, 0, none⟩ l.length).heap[bd]? = W.heap[bd]? by
    have D3 : Df 0 g W (W.drew.freeze ⟨g, 0, none⟩ l.length) := df_freeze (Nat.zero_le _) hg
    exact D3.old bd (Array.getElem?_eq_some_iff.1 hbk).1 (fun e => hnb _ _ (by rw [e]; exact hg)) (.inr hnb))
  have BB := hide DD
  clear hp hbk hown hg hnc hcm hcs htake h hbg DD hnb
  have mixed : Tryz.prog.follows Departure.mixedOrders = true := by kernel_rfl
  go_enter Tryz.func20, Tryz.ntmps20
  go_wp2
  go_region_o
  all_goals (go_wp2; go_ret; exact ⟨rfl, unhide BB, unhide BD⟩)
theorem dString_any (h : Dk w B bd bl bf bc S l W) :
    Calls Tryz.prog 20 #[.pointer (some ⟨bd, 0, none⟩)] W fun e w' => e = .returned (.string ⟨l.toArray⟩) ∧ Df B bd W w' ∧ w'.heap[bd]? = W.heap[bd]? := by
  by_cases h0 : l = []
  · subst h0
    have hlt := h.lt
    obtain ⟨p, v, _, hbk, _, hv⟩ := h.it
    rw [hv rfl] at hbk
    exact (dString_none hbk).mono fun e w' ⟨he, hb⟩ => ⟨he, Df.of_below hb, hb.block _ hlt⟩
  · exact dString_some h h0
set_option maxHeartbeats 1000000 in
set_option maxRecDepth 100000 in
/-- String's world, then Reset -/
theorem dReset_any (h : Dk w B bd bl bf bc S l W) {V : World} (hd : Df B bd W V) (hb : V.heap[bd]? = W.heap[bd]?) :
    Calls Tryz.prog 21 #[.pointer (some ⟨bd, 0, none⟩)] V fun e w' => e = .returned (.tuple #[]) ∧ Dk w B bd bl bf bc S [] w' ∧ Df B bd W w' := by
  obtain ⟨p, v, hp, hbk, _, _⟩ := h.it
  rw [← hb] at hbk
  have c0 : V.cell? ⟨bd, 0, none⟩ = some p := by rw [Lib.cell_of_heap hbk]; rfl
  have f0 : V.frozen? ⟨bd, 0, none⟩ = false := Lib.frozen_of_heap hbk 0
  have hb1 : (V.setCell ⟨bd, 0, none⟩ (.pointer none)).heap[bd]? = some (.cells #[.pointer none, v, .pointer (some ⟨bl, 0, none⟩)] 46 (0, 0)) := by rw [heap_set hbk]; rfl
  have c1 : (V.setCell ⟨bd, 0, none⟩ (.pointer none)).cell? ⟨bd, 1, none⟩ = some v := by rw [Lib.cell_of_heap hb1]; rfl
  have f1 : (V.setCell ⟨bd, 0, none⟩ (.pointer none)).frozen? ⟨bd, 1, none⟩ = false := Lib.frozen_of_heap hb1 1
  have PP := hide (h.put (hd.trans (df_set 0 (.pointer none))) (.inl rfl) hb1 (World.ownsRow_nil _ _ _ _) (fun _ => rfl) (k := []))
  clear h hd hb hp hbk hb1
  go_enter Tryz.func21, Tryz.ntmps21
  go_wp2
  go_end0
  exact ⟨rfl, unhide PP⟩
end
end Go.Proofs.YtfpfpnhpbnnmfadGreatDoor
