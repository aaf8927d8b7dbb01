/-
  What is asked of an image and of a world without a disk is answered alike; both beside each other in memory.
-/
import Derived.Test.YtmlhalhjfcfagabGreatYd
import Derived.Test.YtmlhalhjfcfagabGreatYr
import Derived.Test.YtmlhalhjfcfagabGreatYt
import Derived.Test.YtmlhalhjfcfagabGreatYm
namespace Go.Proofs.YtmlhalhjfcfagabGreat
open Go.RowKit
open Idl (Stp St chk stpA strs IRep Tg iown)
namespace Img
variable {m : Img} {last : Int} {S : St}
theorem Sim.start0 : Sim blankI 0 St.empty := by
  have hm := Sft.good0.ex.ok
  have hdead : ∀ n, n < 8 → blankI.live n = false := fun n hn => anyB_false.1 Sft.blank_dead n hn
  refine ⟨Idl.Inv.empty, rfl, fun d hd s f => ?_, fun n hn hl => ?_⟩
  · constructor
    · intro z; cases z
    · rintro ⟨n, h1, _⟩
      have := h1.ok hm hd
      rw [hdead n this.1] at this
      cases this.2.1
  · rw [hdead n hn] at hl; cases hl
theorem Sim.names (h : Sim m last S) (hm : m.check = 0) {d : Nat} (hd : d < 3) : Idl.names S (d : Int) = snames m (d : Int) := by
  unfold Idl.names snames
  rw [show Idl.isD (d : Int) = true by simp [Idl.isD]; omega, if_pos rfl, if_pos (by omega), Int.toNat_natCast]
  refine Idl.riseN_ext ?_ (sortN_rise (rawN_nodup hm hd (Nat.le_refl 4))) (fun s => ?_)
  · unfold Idl.RiseN
    rw [List.pairwise_map]
    exact h.inv.rise d
  · rw [sortN_mem (rawN_nodup hm hd (Nat.le_refl 4)), rawN_mem, List.mem_map]
    constructor
    · rintro ⟨e, he, rfl⟩
      obtain ⟨n, ⟨k, hk, h1, h2, _⟩, _⟩ := (h.look d hd e.1 e.2).1 (Idl.look_mem (h.inv.rise d) he)
      exact ⟨k, hk, h1, h2⟩
    · rintro ⟨k, hk, h1, h2⟩
      have ok := (slot_ok h1).1 ((well_iff.1 hm).slot d k hd hk)
      obtain ⟨n, hi⟩ := Int.eq_ofNat_of_zero_le ok.lo
      exact ⟨_, Idl.look_some (h.some hm hd ⟨k, hk, h1, h2, hi⟩), rfl⟩
theorem sread_code (h : Sim m last S) (hm : m.check = 0) (d : Int) (s : ByteArray) (p : Int) : Idl.code S (Idl.cut d s p) = sreadC m d s p := h.code hm _
theorem Sim.cutThe (h : Sim m last S) (hm : m.check = 0) {d : Int} {s : ByteArray} {p : Int} (hc : sreadC m d s p = 0) : (0 ≤ p ∧ p < 2) ∧ ∃ n, n < 8 ∧ m.live n = true ∧ inoOf m d s = (n : Int) ∧ m.stamp n = ((Idl.the S (Idl.cut d s p) : Nat) : Int) + 1 := by
  unfold sreadC at hc
  have hk : chk (Idl.cut d s p) = 0 := (scheck_zero hc).1
  obtain ⟨_, _, hd, _, _, hp⟩ := chk_names hk
  have hi : 0 ≤ inoOf m d s := by
    unfold scheck at hc
    rw [if_neg (by rw [hk]; simp)] at hc
    by_cases z : inoOf m d s < 0
    · simp [Idl.cut, z] at hc
    · omega
  obtain ⟨k, n, hT⟩ := there hm hi
  exact ⟨hp (.inr rfl), n, hT.n8, hT.live, hT.of, (h.the hm (x := Idl.cut d s p) (k := k) (n := n) hT).1⟩
theorem Sim.readB (h : Sim m last S) (hm : m.check = 0) (d : Int) (s : ByteArray) (p : Int) : Idl.rdB S d s p = sreadB m d s p := by
  unfold Idl.rdB sreadB
  rw [sread_code h hm]
  by_cases hc : sreadC m d s p ≠ 0
  · rw [if_pos hc, if_pos hc]
  · rw [if_neg hc, if_neg hc]
    obtain ⟨hp, n, hn, hl, hi, hs⟩ := h.cutThe hm (show sreadC m d s p = 0 by omega)
    have := (h.has n hn hl p.toNat (by omega) _ hs).1
    rw [this]
    unfold spart
    rw [hi, Int.toNat_natCast]
    by_cases z : 0 ≤ m.part n p.toNat
    · have : ¬ m.part n p.toNat < 0 := by omega
      simp [z, this]
    · have : m.part n p.toNat < 0 := by omega
      simp [z, this]
theorem Sim.readT (h : Sim m last S) (hm : m.check = 0) (d : Int) (s : ByteArray) (p : Int) : Idl.rdT S d s p = sreadT m d s p := by
  unfold Idl.rdT sreadT
  rw [sread_code h hm]
  by_cases hc : sreadC m d s p ≠ 0
  · rw [if_pos hc, if_pos hc]; rfl
  · rw [if_neg hc, if_neg hc]
    obtain ⟨hp, n, hn, hl, hi, hs⟩ := h.cutThe hm (show sreadC m d s p = 0 by omega)
    have := (h.has n hn hl p.toNat (by omega) _ hs).2
    rw [this]
    unfold spart
    rw [hi, Int.toNat_natCast]
    by_cases z : 0 ≤ m.part n p.toNat
    · rw [if_pos z, if_neg (by omega)]
    · rw [if_neg z, if_pos (by omega)]; rfl
theorem Sim.same (h : Sim m last S) (hm : m.check = 0) {d e : Nat} (hd : d < 3) (he : e < 3) (s t : ByteArray) : Idl.same S (d : Int) s (e : Int) t = ssame m (d : Int) s (e : Int) t := by
  unfold Idl.same ssame Idl.lookS
  rw [show Idl.isD (d : Int) = true by simp [Idl.isD]; omega, show Idl.isD (e : Int) = true by simp [Idl.isD]; omega, if_pos rfl, if_pos rfl, Int.toNat_natCast, Int.toNat_natCast]
  by_cases h1 : inoOf m (d : Int) s < 0
  · rw [h.none hm hd h1, show decide (0 ≤ inoOf m (d : Int) s) = false by simp; omega]; rfl
  · obtain ⟨n, hn, en⟩ := ent_of hm (d := d) (s := s) (by omega)
    have on := hn.ok hm hd
    rw [h.some hm hd hn, en, show decide (0 ≤ ((n : Nat) : Int)) = true by simp]
    by_cases h2 : inoOf m (e : Int) t < 0
    · rw [h.none hm he h2]
      have : ((n : Int) == inoOf m (e : Int) t) = false := by simp; omega
      rw [this]; rfl
    · obtain ⟨n', hn', en'⟩ := ent_of hm (d := e) (s := t) (by omega)
      have on' := hn'.ok hm he
      rw [h.some hm he hn', en']
      show ((m.stamp n - 1).toNat == (m.stamp n' - 1).toNat) = (true && ((n : Int) == (n' : Int)))
      rw [Bool.true_and]
      by_cases z : n = n'
      · subst z; simp
      · have h3 : ¬ m.stamp n = m.stamp n' := fun y => z (stamp_one hm on.1 on'.1 on.2.1 on'.2.1 y)
        have h4 : ¬ (m.stamp n - 1).toNat = (m.stamp n' - 1).toNat := by have := on.2.2.2.1; have := on'.2.2.2.1; omega
        rw [show ((m.stamp n - 1).toNat == (m.stamp n' - 1).toNat) = false by simpa using h4, show ((n : Int) == (n' : Int)) = false by simp; omega]
end Img
/-- files that a law made, and the reference's world beside them; the block g is none of its -/
structure Ri (w : World) (bf bc br g : Nat) (m k : Img) (last : Int) (S : St) (n : Nat) (W : World) : Prop where
  fo : Fo w bf bc m k last W
  it : ∃ l vt vf, IRep W br S l vt vf ∧ (∀ i, iown br vt vf i → w.heap.size ≤ i ∧ i ≠ bf ∧ i ≠ bc ∧ i ≠ g) ∧ l.length ≤ n ∧ S.next ≤ n
section
variable {w W W' : World} {bf bc br g n : Nat} {m k : Img} {last : Int} {S : St}
theorem Ri.call (h : Ri w bf bc br g m k last S n W) (hb : Below W.heap.size W W') : Ri w bf bc br g m k last S n W' := by
  obtain ⟨l, vt, vf, r, o, hl, hn⟩ := h.it
  exact ⟨h.fo.call hb, l, vt, vf, r.below hb, o, hl, hn⟩
theorem Ri.box (h : Ri w bf bc br g m k last S n W) (hb : Below W.heap.size W W') : Ri w bf bc br W.heap.size m k last S n W' := by
  obtain ⟨l, vt, vf, r, o, hl, hn⟩ := h.it
  exact ⟨h.fo.call hb, l, vt, vf, r.below hb, fun i hi => ⟨(o i hi).1, (o i hi).2.1, (o i hi).2.2.1, by have := r.lt hi; omega⟩, hl, hn⟩
theorem Ri.mono {n' : Nat} (h : Ri w bf bc br g m k last S n W) (hn : n ≤ n') : Ri w bf bc br g m k last S n' W := by
  obtain ⟨l, vt, vf, r, o, hl, hn2⟩ := h.it
  exact ⟨h.fo, l, vt, vf, r, o, by omega, by omega⟩
theorem Ri.file (h : Ri w bf bc br g m k last S n W) {m' k' : Img} {last' : Int} (hf : Fo w bf bc m' k' last' W') (hc : Idl.Chg (fun i => i = bf ∨ i = bc) W W') : Ri w bf bc br g m' k' last' S n W' := by
  obtain ⟨l, vt, vf, r, o, hl, hn⟩ := h.it
  exact ⟨hf, l, vt, vf, r.other hc (fun i hi z => z.elim (o i hi).2.1 (o i hi).2.2.1), o, hl, hn⟩
theorem Ri.fmut (h : Ri w bf bc br g m k last S n W) {k' : Img} (hf : Fo w bf bc m k' last W') (hm : ∃ c, Mut W W' bc c 57) : Ri w bf bc br g m k' last S n W' := by
  obtain ⟨c, hm⟩ := hm
  obtain ⟨l, vt, vf, r, o, hl, hn⟩ := h.it
  exact ⟨hf, l, vt, vf, r.keep (fun i hi => hm.old i (r.lt hi) (o i hi).2.2.1), o, hl, hn⟩
theorem Ri.ref (h : Ri w bf bc br g m k last S n W) (hn : n ≤ 1000) (hg : g < W.heap.size) (y : Stp) (h1 : y.name.size ≤ maxLen) (h2 : y.to.size ≤ maxLen) (h3 : y.text.size ≤ maxLen) :
    Calls Tryz.prog 31 #[.pointer (some ⟨br, 0, none⟩), .agg (stpA y)] W fun e w' => e = .returned (.int .i64 (Idl.code S y)) ∧ Ri w bf bc br g m k last (Idl.step S y) (n + 1) w' ∧ w'.heap[g]? = W.heap[g]? := by
  obtain ⟨l, vt, vf, r, o, hl, hn2⟩ := h.it
  refine (Idl.rDo_any r (by omega) (by omega) y h1 h2 h3).mono ?_
  rintro e w' ⟨rfl, l', vt', vf', r3, c, ho, hl'⟩
  obtain ⟨cs, ds, f⟩ := h.fo.it
  have hb := c.below h.fo.bel.size (fun i hi => (o i hi).1)
  refine ⟨rfl, ⟨⟨⟨cs, ds, f.keep (c.block _ f.flt (fun z => (o _ z).2.1 rfl)) (c.block _ f.clt (fun z => (o _ z).2.2.1 rfl))⟩, h.fo.bel.trans hb, h.fo.f0, h.fo.c0⟩, l', vt', vf', r3, fun i hi => ?_, by omega, by have := Idl.next_step S y; omega⟩, c.block g hg (fun z => (o _ z).2.2.2 rfl)⟩
  rcases ho i hi with z | z
  · exact o i z
  · have h4 := f.flt
    have h5 := f.clt
    have h6 := h.fo.bel.size
    exact ⟨by omega, by omega, by omega, by omega⟩
theorem Ri.list2 (h : Ri w bf bc br g m k last S n W) (hn : n ≤ 1000) (d : Int) :
    Calls Tryz.prog 32 #[.pointer (some ⟨br, 0, none⟩), .int .i64 d] W fun e w' => ∃ v, e = .returned v ∧ w'.ownsRow W.heap.size 9 1 v (Idl.names S d).length (strs (Idl.names S d)) ∧ Below W.heap.size W w' := by
  obtain ⟨l, vt, vf, r, _, hl, hn2⟩ := h.it
  obtain ⟨ta, fa, tc, fc, _, _, R⟩ := r.rd (by omega) (by omega)
  rw [← Idl.names_same r.tags r.inv d]
  exact Idl.rList_any (by omega) d W R
theorem Ri.read2 (h : Ri w bf bc br g m k last S n W) (hn : n ≤ 1000) (d : Int) (s : ByteArray) (hs : s.size ≤ maxLen) (p : Int) :
    Calls Tryz.prog 33 #[.pointer (some ⟨br, 0, none⟩), .int .i64 d, .string s, .int .i64 p] W fun e w' => Idl.readIs S d s p e ∧ Below W.heap.size W w' := by
  obtain ⟨l, vt, vf, r, _, hl, hn2⟩ := h.it
  obtain ⟨ta, fa, tc, fc, _, _, R⟩ := r.rd (by omega) (by omega)
  exact Idl.rRead_any r.tags r.inv d s hs p W R
theorem Ri.same2 (h : Ri w bf bc br g m k last S n W) (hn : n ≤ 1000) (d : Int) (s : ByteArray) (d2 : Int) (s2 : ByteArray) :
    Calls Tryz.prog 34 #[.pointer (some ⟨br, 0, none⟩), .int .i64 d, .string s, .int .i64 d2, .string s2] W fun e w' => e = .returned (.bool (Idl.same S d s d2 s2)) ∧ ∃ q, w' = W.drewN q := by
  obtain ⟨l, vt, vf, r, _, hl, hn2⟩ := h.it
  obtain ⟨ta, fa, tc, fc, _, _, R⟩ := r.rd (by omega) (by omega)
  exact Idl.rSame_any r.tags d s d2 s2 W R
/-- a new world beside them -/
theorem Ri.start (h : Fo w bf bc m k last W) : Ri w bf bc W.heap.size bf m k last St.empty 0 (W.alloc (.cells #[.slice none 0 0, .slice none 0 0] 71)) := by
  obtain ⟨cs, ds, f⟩ := h.it
  have h4 := f.flt
  have h5 := f.clt
  have h6 := h.bel.size
  refine ⟨h.call ((Below.refl _ W).alloc (Nat.le_refl _) _), [], _, _, Idl.IRep.new W, fun i hi => ?_, Nat.le_refl _, Nat.le_refl _⟩
  rcases hi with z | z | z
  · exact ⟨by omega, by omega, by omega, by omega⟩
  · cases z
  · cases z
end
end Go.Proofs.YtmlhalhjfcfagabGreat
namespace Go.Proofs.YtmlhalhjfcfagabGreat
open Go.RowKit
open Idl (Stp chk stpA strs)
namespace Sft
theorem Op1.ix_str {o : Oper} {ρ : Operand → Value} (x y : Operand) (ho : o.op = .indexAddr 60 x y) {g n c j : Nat} (hx : ρ x = .slice (some ⟨g, 0, none⟩) n c) (hy : ρ y = .int .i64 ((j : Nat) : Int)) (hj : j < n) (w : World) : (execOp ρ o).run Tryz.prog w = .ok (.value (.pointer (some ⟨g, j, none⟩))) w := by
  have jz : (j : Int) < (n : Int) := by omega
  unfold execOp
  rw [ho]
  go_simp
theorem Op1.neb {o : Oper} {ρ : Operand → Value} (x y : Operand) (ho : o.op = .binOp .neq 4 x y 4) {v : Bool} (hx : ρ x = .bool v) (hy : ρ y = .bool v) (w : World) : (execOp ρ o).run Tryz.prog w = .ok (.value (.bool false)) w := by
  have h : (v != v) = false := by simp
  unfold execOp
  rw [ho]
  go_simp
/-- a list of names in memory -/
theorem name_cells {W : World} {base : Nat} {v : Value} {l : List ByteArray} (h : W.ownsRow base 9 1 v l.length (strs l)) : ∃ a c, v = .slice a l.length c ∧ ∀ i (hi : i < l.length), ∃ g, a = some ⟨g, 0, none⟩ ∧ g < W.heap.size ∧ ∀ W', Below W.heap.size W W' → W'.cell? ⟨g, i, none⟩ = some (.string l[i]) := by
  rcases names_cell h with ⟨e1, e2⟩ | ⟨g, c, e1, gl, hc⟩
  · exact ⟨none, 0, by rw [e1, e2]; rfl, fun i hi => by rw [e2] at hi; cases hi⟩
  · exact ⟨_, c, e1, fun i hi => ⟨g, rfl, gl, fun W' hb => by rw [hb.cell (p := ⟨g, i, none⟩) gl]; exact hc i hi⟩⟩
set_option maxHeartbeats 8000000 in
set_option maxRecDepth 100000 in
theorem softIdeal_any {w : World} {v : Value} {L : List Stp} (hs : Idl.Steps w v L) :
    Calls Tryz.prog 4 #[v] w fun e w' => e = .returned (.bool true) ∧ Below w.heap.size w w' := by
  have z := zero_img.1
  have hbg := begun_any w
  have HG := hide fun W (bW : Below w.heap.size w W) => Idl.greatSteps_any (hs.below bW)
  have HOk := hide hs.ok
  have hgl : Idl.greats L = false → L.length ≤ 200 := fun h => by
    simp only [Idl.greats, Bool.or_eq_false_iff, decide_eq_false_iff_not] at h
    omega
  have HGL := hide hgl
  obtain ⟨a, c, rfl, hst⟩ := Steps.gen hs
  have HST := hide hst
  clear hs hgl hst
  go_enter Tryz.func4, Tryz.ntmps4
  go_wp2_with fail
  refine hbg.mono ?_
  rintro e w1 ⟨rfl, b1⟩
  have B1 := hide b1
  have hg := unhide HG w1 b1
  clear b1 hbg
  cases hgr : Idl.greats L <;> rw [hgr] at hg
  case true =>
    clear hgr
    go_wp2_with fail
    refine hg.mono ?_
    rintro e w2 ⟨rfl, b2⟩
    have B2 := hide ((unhide B1).trans (b2.mono (unhide B1).size))
    clear b2 hg
    go_wp2_with fail
    go_ret
    exact ⟨rfl, unhide B2⟩
  have h200 := unhide HGL hgr
  clear hgr HGL HG
  go_wp2_with fail
  refine hg.mono ?_
  rintro e w2 ⟨rfl, b2⟩
  have B2 := hide ((unhide B1).trans (b2.mono (unhide B1).size))
  clear b2 hg B1
  go_wp2_with fail
  refine (Fo.new w (unhide B2)).mono ?_
  rintro e w3 ⟨bf, bc, rfl, _, _, h3, _⟩
  have R0 := hide (Ri.start h3)
  clear h3 B2
  go_wp2_with fail
  generalize w3.alloc (.cells #[.slice none 0 0, .slice none 0 0] 71) = X0 at R0 ⊢
  generalize w3.heap.size = br at R0 ⊢
  go_loopw [5] (fun i wr => ∃ (j g : Nat) (m k : Img) (last : Int) (S : Idl.St), j ≤ L.length ∧ i = .int .i64 j ∧ Hid (Ri w bf bc br g m k last S j wr) ∧ Hid (Keeps m k last j) ∧ Hid (Img.Sim m last S)) (fun i _ => L.length - (intOf i).toNat)
  case atStart => exact ⟨0, bf, blankI, blankI, 0, Idl.St.empty, Nat.zero_le _, rfl, R0, hide Keeps.start, hide Img.Sim.start0⟩
  case round =>
    clear R0
    obtain ⟨j, g, m, k, last, S, hj, rfl, HR, HK, HS⟩ := hrel
    by_cases hlt : j < L.length
    case pos =>
      have hjn : (j : Int) < (L.length : Int) := by omega
      obtain ⟨ga, oa, rfl, hga, hca⟩ := unhide HST j hlt
      have hxo := unhide HOk L[j] (List.getElem_mem hlt)
      generalize L[j] = x at hca hxo
      obtain ⟨kind, dir, toDir, p, name, tu, text⟩ := x
      have HXO := hide hxo.big
      have bA := (unhide HR).fo.bel
      have c0 : wr.cell? ⟨ga, oa + j * 7, none⟩ = some (.int .i64 kind) := hca wr bA 0 _ rfl
      have c1 : wr.cell? ⟨ga, oa + j * 7 + 1, none⟩ = some (.int .i64 dir) := hca wr bA 1 _ rfl
      have c2 : wr.cell? ⟨ga, oa + j * 7 + 2, none⟩ = some (.int .i64 toDir) := hca wr bA 2 _ rfl
      have c3 : wr.cell? ⟨ga, oa + j * 7 + 3, none⟩ = some (.int .i64 p) := hca wr bA 3 _ rfl
      have c4 : wr.cell? ⟨ga, oa + j * 7 + 4, none⟩ = some (.string name) := hca wr bA 4 _ rfl
      have c5 : wr.cell? ⟨ga, oa + j * 7 + 5, none⟩ = some (.string tu) := hca wr bA 5 _ rfl
      have c6 : wr.cell? ⟨ga, oa + j * 7 + 6, none⟩ = some (.string text) := hca wr bA 6 _ rfl
      have BB := hide ((Below.refl wr.heap.size wr).alloc (Nat.le_refl _) (.cells #[.int .i64 kind, .int .i64 dir, .int .i64 toDir, .int .i64 p, .string name, .string tu, .string text] 37))
      have RB := hide (heap_alloc_last wr (.cells #[.int .i64 kind, .int .i64 dir, .int .i64 toDir, .int .i64 p, .string name, .string tu, .string text] 37))
      have HB := hide ((unhide HR).box (unhide BB))
      have gl := (Array.getElem?_eq_some_iff.1 (unhide RB)).1
      have N6 := hide (show wr.heap.size ≠ bf ∧ wr.heap.size ≠ bc from ⟨by have := (unhide HR).fo.cells.2.1; omega, by have := (unhide HR).fo.cells.2.2.1; omega⟩)
      have Q := hide (show ∀ i u, #[.int .i64 kind, .int .i64 dir, .int .i64 toDir, .int .i64 p, .string name, .string tu, .string text][i]? = some u → (wr.alloc (.cells #[.int .i64 kind, .int .i64 dir, .int .i64 toDir, .int .i64 p, .string name, .string tu, .string text] 37)).cell? ⟨wr.heap.size, i, none⟩ = some u from fun i u hu => by rw [cell_of_row _ _ _ _ _ _ (unhide RB)]; exact hu)
      clear hca bA HST HOk hxo hga BB HR
      go_upto_region 10 with fail
      try (go_not_at_region 10; go_simp; go_upto_region 10 with fail)
      generalize wr.alloc (.cells #[.int .i64 kind, .int .i64 dir, .int .i64 toDir, .int .i64 p, .string name, .string tu, .string text] 37) = B at *
      generalize wr.heap.size = g7 at *
      clear c0 c1 c2 c3 c4 c5 c6
      have q0 := unhide Q 0 _ rfl
      have q1 := unhide Q 1 _ rfl
      have q2 := unhide Q 2 _ rfl
      have q3 := unhide Q 3 _ rfl
      have q4 := unhide Q 4 _ rfl
      have q5 := unhide Q 5 _ rfl
      have q6 := unhide Q 6 _ rfl
      by_cases h7 : kind = 7
      · subst h7
        have K1 := hide ((unhide HK).disk ⟨7, dir, toDir, p, name, tu, text⟩)
        rw [show Img.sdisk m k ⟨7, dir, toDir, p, name, tu, text⟩ = Img.write m k p from rfl] at K1
        have Rd := hide ((unhide HB).call ((Below.refl _ B).drew))
        have S0 : (fun W : World => W.cell? ⟨bf, 0, none⟩ = some (.pointer (some ⟨bc, 0, none⟩)) ∧ W.cell? ⟨g7, 3, none⟩ = some (.int .i64 p)) B.drew := ⟨(unhide Rd).fo.cells.1, q3⟩
        go_wp2_with fail
        refine wp_region_held_drew (S := fun W : World => W.cell? ⟨bf, 0, none⟩ = some (.pointer (some ⟨bc, 0, none⟩)) ∧ W.cell? ⟨g7, 3, none⟩ = some (.int .i64 p)) (by kernel_rfl) (S0) (fun hS => ?_)
        refine wpAnyH_take (i := 0) (oi := { dst := some 42, op := Op.move (Operand.tmp 3), type := 42, pos := "law05.go:94", after := #[], guard := none }) (v := .pointer (some ⟨bf, 0, none⟩)) rfl (by kernel_rfl) (by kernel_rfl) (by kernel_rfl) (fun _ _ _ h => h) (Or.inl ⟨by kernel_rfl, fun W h => (by first | kernel_rfl | go_simp)⟩) hS ?_
        try simp only [Act.put, List.setIfInBounds_toArray, List.set_cons_zero, List.set_cons_succ]
        refine wpAnyH_take (i := 1) (oi := { dst := some 43, op := Op.nilCheck (Operand.tmp 42), type := 0, pos := "law05.go:94", after := #[{ on := 0, ground := Ground.data }], guard := none }) (v := .pointer (some ⟨bf, 0, none⟩)) rfl (by kernel_rfl) (by kernel_rfl) (by kernel_rfl) (fun _ _ _ h => h) (Or.inl ⟨by kernel_rfl, fun W h => (by first | kernel_rfl | go_simp)⟩) hS ?_
        try simp only [Act.put, List.setIfInBounds_toArray, List.set_cons_zero, List.set_cons_succ]
        refine wpAnyH_take (i := 2) (oi := { dst := some 44, op := Op.fieldAddr 55 (Operand.tmp 43) 0, type := 0, pos := "law05.go:94", after := #[{ on := 1, ground := Ground.data }], guard := none }) (v := .pointer (some ⟨bf, 0, none⟩)) rfl (by kernel_rfl) (by kernel_rfl) (by kernel_rfl) (fun _ _ _ h => h) (Or.inl ⟨by kernel_rfl, fun W h => (by first | kernel_rfl | go_simp)⟩) hS ?_
        try simp only [Act.put, List.setIfInBounds_toArray, List.set_cons_zero, List.set_cons_succ]
        refine wpAnyH_take (i := 3) (oi := { dst := some 45, op := Op.load 53 (Operand.tmp 44), type := 53, pos := "law05.go:94", after := #[{ on := 2, ground := Ground.data }], guard := none }) (v := .pointer (some ⟨bc, 0, none⟩)) rfl (by kernel_rfl) (by kernel_rfl) (by kernel_rfl) (fun _ _ _ h => h) (Or.inl ⟨by kernel_rfl, fun W h => Op1.ld_ptr (.tmp 44) (by kernel_rfl) (by kernel_rfl) W (h.1)⟩) hS ?_
        try simp only [Act.put, List.setIfInBounds_toArray, List.set_cons_zero, List.set_cons_succ]
        refine wpAnyH_take (i := 4) (oi := { dst := some 46, op := Op.fieldAddr 37 (Operand.tmp 6) 3, type := 0, pos := "law05.go:94", after := #[], guard := none }) (v := .pointer (some ⟨g7, 3, none⟩)) rfl (by kernel_rfl) (by kernel_rfl) (by kernel_rfl) (fun _ _ _ h => h) (Or.inl ⟨by kernel_rfl, fun W h => (by first | kernel_rfl | go_simp)⟩) hS ?_
        try simp only [Act.put, List.setIfInBounds_toArray, List.set_cons_zero, List.set_cons_succ]
        refine wpAnyH_take (i := 5) (oi := { dst := some 47, op := Op.load 3 (Operand.tmp 46), type := 3, pos := "law05.go:94", after := #[{ on := 4, ground := Ground.data }], guard := none }) (v := .int .i64 p) rfl (by kernel_rfl) (by kernel_rfl) (by kernel_rfl) (fun _ _ _ h => h) (Or.inl ⟨by kernel_rfl, fun W h => Op1.ld_int (.tmp 46) (by kernel_rfl) (by kernel_rfl) W (h.2)⟩) hS ?_
        try simp only [Act.put, List.setIfInBounds_toArray, List.set_cons_zero, List.set_cons_succ]
        refine wpAnyH_ready (rs := [6]) (by kernel_rfl) (by simp) ?_
        refine AllReadyH.cons (o := { dst := some 48, op := Op.call { callee := Callee.value (Operand.func 28), args := #[Operand.tmp 45, Operand.tmp 47], argTypes := #[53, 3] }, type := 4, pos := "law05.go:94", after := #[{ on := 3, ground := Ground.data }, { on := 5, ground := Ground.data }], guard := none }) rfl (fun K hK => ?_) AllReadyH.nil
        rw [if_pos (by kernel_rfl)]
        go_simp
        refine ((unhide Rd).fo.write p).mono ?_
        rintro e W5 ⟨rfl, f5, m5⟩
        have R5 := hide ((unhide Rd).fmut f5 m5)
        have S5 : (fun W : World => W.cell? ⟨bf, 0, none⟩ = some (.pointer (some ⟨bc, 0, none⟩)) ∧ W.cell? ⟨g7, 3, none⟩ = some (.int .i64 p)) W5 := ⟨f5.cells.1, by obtain ⟨c, mm⟩ := m5; have e : W5.heap[g7]? = B.drew.heap[g7]? := mm.old g7 gl (unhide N6).2; rw [cell_of_row _ _ _ _ _ _ (e.trans (unhide RB))]; rfl⟩
        clear f5 m5
        go_wp2_with fail
        refine hK.out _ _ (S5) (fun hS5 => ?_)
        clear hK K
        try simp only [Act.put, List.setIfInBounds_toArray, List.set_cons_zero, List.set_cons_succ]
        refine wpAnyH_done (by kernel_rfl) ?_ _
        clear hS hS5 S0 S5
        go_wp2_with fail
        go_roundw
        case rel => exact ⟨j + 1, g7, m, _, last, S, by omega, by go_num, hide ((unhide R5).mono (by omega)), hide ((unhide K1).mono (by omega)), HS⟩
        case measure => simp [intOf]; omega
      · have k7 : (kind == 7) = false := by simpa using h7
        by_cases h8 : kind = 8
        · subst h8
          have p0 := (unhide HB).fo.cells.1
          clear k7 h7
          go_wp2_with fail
          refine ((unhide HB).fo.sync).mono ?_
          rintro e W5 ⟨rfl, f5, m5⟩
          have R5 := hide ((unhide HB).fmut f5 m5)
          have K1 := hide ((unhide HK).syn)
          clear f5 m5
          go_wp2_with fail
          go_roundw
          case rel => exact ⟨j + 1, g7, m, _, last, S, by omega, by go_num, hide ((unhide R5).mono (by omega)), hide ((unhide K1).mono (by omega)), HS⟩
          case measure => simp [intOf]; omega
        · have k8 : (kind == 8) = false := by simpa using h8
          by_cases h9 : kind = 9
          · subst h9
            clear k7 k8 h7 h8
            go_wp2_with fail
            go_roundw
            case rel => exact ⟨j + 1, g7, m, k, last, S, by omega, by go_num, hide ((unhide HB).mono (by omega)), hide ((unhide HK).mono (by omega)), HS⟩
            case measure => simp [intOf]; omega
          · have k9 : (kind == 9) = false := by simpa using h9
            clear h7 h8 h9
            have D1 := hide ((unhide HB).fo.step (unhide HK).good (by have := (unhide HK).few; omega) ⟨kind, dir, toDir, p, name, tu, text⟩ (unhide HXO).1 (unhide HXO).2.1 (unhide HXO).2.2)
            have K1 := hide ((unhide HK).step ⟨kind, dir, toDir, p, name, tu, text⟩)
            by_cases hc : Img.scode m k ⟨kind, dir, toDir, p, name, tu, text⟩ = 6
            · have hn0 : Img.scode m k ⟨kind, dir, toDir, p, name, tu, text⟩ ≠ 0 := by omega
              rw [Img.sstep_code hn0, Img.slast_code hn0, hc] at D1
              rw [Img.sstep_code hn0, Img.slast_code hn0] at K1
              clear hc hn0
              simp only [stpA] at D1
              go_wp2_with fail
              refine (unhide D1).mono ?_
              rintro e W5 ⟨rfl, f5, c5⟩
              have R5 := hide ((unhide HB).file f5 c5)
              clear f5 c5 D1
              go_wp2_with fail
              go_roundw
              case rel => exact ⟨j + 1, g7, m, k, last, S, by omega, by go_num, hide ((unhide R5).mono (by omega)), hide ((unhide K1).mono (by omega)), HS⟩
              case measure => simp [intOf]; omega
            · obtain ⟨hce, hsim⟩ := (unhide HS).go (unhide HK).good hc
              have HS2 := hide hsim
              have k6 : (Img.scode m k ⟨kind, dir, toDir, p, name, tu, text⟩ == 6) = false := by simpa using hc
              have RF := hide fun W (r : Ri w bf bc br g7 (Img.sstep m k last ⟨kind, dir, toDir, p, name, tu, text⟩) k (Img.slast m k last ⟨kind, dir, toDir, p, name, tu, text⟩) S j W) (hg : g7 < W.heap.size) => r.ref (by omega) hg ⟨kind, dir, toDir, p, name, tu, text⟩ (unhide HXO).1 (unhide HXO).2.1 (unhide HXO).2.2
              rw [← hce] at RF
              clear hce hsim hc
              generalize Img.scode m k ⟨kind, dir, toDir, p, name, tu, text⟩ = cd at D1 k6 RF
              generalize Img.sstep m k last ⟨kind, dir, toDir, p, name, tu, text⟩ = m1 at D1 K1 HS2 RF
              generalize Img.slast m k last ⟨kind, dir, toDir, p, name, tu, text⟩ = la1 at D1 K1 HS2 RF
              generalize Idl.step S ⟨kind, dir, toDir, p, name, tu, text⟩ = S1 at HS2 RF
              have ncd : (cd != cd) = false := by simp
              simp only [stpA] at D1 RF
              go_wp2_with fail
              refine (unhide D1).mono ?_
              rintro e W5 ⟨rfl, f5, c5⟩
              have R5 := hide ((unhide HB).file f5 c5)
              have rr5 : W5.heap[g7]? = some (.cells #[.int .i64 kind, .int .i64 dir, .int .i64 toDir, .int .i64 p, .string name, .string tu, .string text] 37) := by rw [c5.block g7 gl (fun z => z.elim (unhide N6).1 (unhide N6).2)]; exact unhide RB
              have Q5 := hide (show ∀ i u, #[.int .i64 kind, .int .i64 dir, .int .i64 toDir, .int .i64 p, .string name, .string tu, .string text][i]? = some u → W5.cell? ⟨g7, i, none⟩ = some u from fun i u hu => by rw [cell_of_row _ _ _ _ _ _ rr5]; exact hu)
              have D2 := hide (unhide RF W5 (unhide R5) (Array.getElem?_eq_some_iff.1 rr5).1)
              clear f5 c5 D1 rr5 q0 q1 q2 q3 q4 q5 q6
              have q0 := unhide Q5 0 _ rfl
              have q1 := unhide Q5 1 _ rfl
              have q2 := unhide Q5 2 _ rfl
              have q3 := unhide Q5 3 _ rfl
              have q4 := unhide Q5 4 _ rfl
              have q5 := unhide Q5 5 _ rfl
              have q6 := unhide Q5 6 _ rfl
              go_wp2_with fail
              refine (unhide D2).mono ?_
              rintro e W6 ⟨rfl, r6, _⟩
              have R6 := hide r6
              clear r6 D2
              go_wp2_with fail
              go_roundw
              case rel => exact ⟨j + 1, g7, m1, k, la1, S1, by omega, by go_num, R6, hide ((unhide K1).mono (by omega)), HS2⟩
              case measure => simp [intOf]; omega
    case neg =>
      clear HST HOk
      have HM := hide (unhide HK).good.ex.ok
      have NM := hide fun (d : Nat) (hd : d < 3) => (unhide HS).names (unhide HM) hd
      have RB := hide fun d s p => (unhide HS).readB (unhide HM) d s p
      have RT := hide fun d s p => (unhide HS).readT (unhide HM) d s p
      have RC := hide fun d s p => Img.sread_code (unhide HS) (unhide HM) d s p
      have SA := hide fun (d e : Nat) (hd : d < 3) (he : e < 3) s t => (unhide HS).same (unhide HM) hd he s t
      have L2 := hide fun W (r : Ri w bf bc br g m k last S j W) d => r.list2 (by omega) d
      have E2 := hide fun W (r : Ri w bf bc br g m k last S j W) d s hs p => r.read2 (by omega) d s hs p
      have A2 := hide fun W (r : Ri w bf bc br g m k last S j W) d s d2 s2 => r.same2 (by omega) d s d2 s2
      go_wp2_with fail
      clear hlt hj h200
      go_loopw [8] (fun i wr => ∃ d : Nat, d ≤ 3 ∧ i = .int .i64 d ∧ Hid (Ri w bf bc br g m k last S j wr)) (fun i _ => 3 - (intOf i).toNat)
      case atStart => exact ⟨0, by omega, rfl, HR⟩
      case round =>
        clear HR
        obtain ⟨d, hd3, rfl, RD⟩ := hrel
        by_cases hd : d < 3
        case neg =>
          go_wp2_with fail
          go_ret
          exact ⟨rfl, (unhide RD).fo.bel⟩
        have t3 : decide ((d : Int) < 3) = true := by simp; omega
        have SZ := hide (fun nm h => snames_small (nm := nm) (unhide HM) hd h)
        have LN := hide (snames_len m (unhide HM) hd)
        have L1 := hide (unhide L2 _ (unhide RD) (d : Int))
        rw [unhide NM d hd] at L1
        go_wp2_with fail
        refine (unhide L1).mono ?_
        rintro e W5 ⟨v1, rfl, ho1, b5⟩
        have R5 := hide ((unhide RD).call b5)
        have HO1 := hide ho1
        clear b5 ho1 RD L1
        go_wp2_with fail
        refine ((unhide R5).fo.list (unhide HM) (d : Int)).mono ?_
        rintro e W6 ⟨v2, rfl, ho2, _, b6⟩
        have R6 := hide ((unhide R5).call b6)
        have HO6 := hide (Idl.ownsRow_of_block (unhide HO1) (fun q hq => b6.block q ((unhide HO1).lt q hq).2))
        have ST := hide (SameTexts_any ho2 (unhide HO6) (by have := unhide LN; omega))
        clear b6 HO1 ho2 R5
        go_wp2_with fail
        refine (unhide ST).mono ?_
        rintro e W7 ⟨rfl, b7⟩
        have R7 := hide ((unhide R6).call b7)
        have HO7 := hide (Idl.ownsRow_of_block (unhide HO6) (fun q hq => b7.block q ((unhide HO6).lt q hq).2))
        clear b7 HO6 ST R6
        obtain ⟨a1, c1, rfl, hnc⟩ := name_cells (unhide HO7)
        have HN := hide hnc
        clear hnc HO7
        generalize Img.snames m (d : Int) = NL at HN SZ LN ⊢
        have W7B := hide (Below.refl W7.heap.size W7)
        have lz : (NL.length : Int) ≤ 4 := by have := unhide LN; omega
        go_wp2_with fail
        go_loopw [10] (fun i wr => ∃ ii : Nat, ii ≤ NL.length ∧ i = .int .i64 ii ∧ Hid (Ri w bf bc br g m k last S j wr) ∧ Hid (Below W7.heap.size W7 wr)) (fun i _ => NL.length - (intOf i).toNat)
        case atStart => exact ⟨0, Nat.zero_le _, rfl, R7, W7B⟩
        case round =>
          clear R7 W7B
          obtain ⟨ii, hii, rfl, RI, BI⟩ := hrel
          by_cases hlt : ii < NL.length
          case neg =>
            go_wp2_with fail
            go_roundw
            case rel => exact ⟨d + 1, by omega, by go_num, RI⟩
            case measure => simp [intOf]; omega
          have hkn : (ii : Int) < (NL.length : Int) := by omega
          obtain ⟨gn, rfl, gl, hc⟩ := unhide HN ii hlt
          have HC := hide hc
          have hmem : NL[ii] ∈ NL := List.getElem_mem hlt
          have sz := hide (unhide SZ _ hmem)
          clear hc hmem HN
          generalize NL[ii] = nm at HC sz
          go_wp2_with fail
          go_loopw [11] (fun i wr => ∃ p : Nat, p ≤ 2 ∧ i = .int .i64 p ∧ Hid (Ri w bf bc br g m k last S j wr) ∧ Hid (Below W7.heap.size W7 wr)) (fun i _ => 2 - (intOf i).toNat)
          case atStart => exact ⟨0, by omega, rfl, RI, BI⟩
          case round =>
            clear RI BI
            obtain ⟨p, hp2, rfl, RP, BP⟩ := hrel
            by_cases hp : p < 2
            case pos =>
              have t2 : decide ((p : Int) < 2) = true := by simp; omega
              have c1 := unhide HC _ (unhide BP)
              have U1 := hide ((unhide RP).fo.read (unhide HM) (d : Int) nm (unhide sz) (p : Int))
              go_wp2_with fail
              refine (unhide U1).mono ?_
              rintro e W8 ⟨rfl, _, b8⟩
              have R8 := hide ((unhide RP).call b8)
              have B8 := hide ((unhide BP).trans (b8.mono (unhide BP).size))
              clear b8 U1 RP BP c1
              have c1 := unhide HC _ (unhide B8)
              have U2 := hide (unhide E2 _ (unhide R8) (d : Int) nm (unhide sz) (p : Int))
              unfold Idl.readIs at U2
              rw [unhide RT, unhide RB, unhide RC] at U2
              generalize Img.sreadT m (d : Int) nm (p : Int) = tx at U2 ⊢
              generalize Img.sreadB m (d : Int) nm (p : Int) = bx at U2 ⊢
              generalize Img.sreadC m (d : Int) nm (p : Int) = cx at U2 ⊢
              have q1 : (tx.toList != tx.toList) = false := by simp
              have q2 : (bx != bx) = false := by simp
              have q3 : (cx != cx) = false := by simp
              go_wp2_with fail
              refine (unhide U2).mono ?_
              rintro e W9 ⟨rfl, b9⟩
              have R9 := hide ((unhide R8).call b9)
              have B9 := hide ((unhide B8).trans (b9.mono (unhide B8).size))
              clear b9 U2 R8 B8 c1
              go_wp2_with fail
              go_roundw
              case rel => exact ⟨p + 1, by omega, by go_num, R9, B9⟩
              case measure => simp [intOf]; omega
            case neg =>
              go_wp2_with fail
              go_loopw [18] (fun i wr => ∃ e : Nat, e ≤ 3 ∧ i = .int .i64 e ∧ Hid (Ri w bf bc br g m k last S j wr) ∧ Hid (Below W7.heap.size W7 wr)) (fun i _ => 3 - (intOf i).toNat)
              case atStart => exact ⟨0, by omega, rfl, RP, BP⟩
              case round =>
                clear RP BP
                obtain ⟨e, he3, rfl, RE, BE⟩ := hrel
                by_cases he : e < 3
                case neg =>
                  go_wp2_with fail
                  go_roundw
                  case rel => exact ⟨ii + 1, by omega, by go_num, RE, BE⟩
                  case measure => simp [intOf]; omega
                have u3 : decide ((e : Int) < 3) = true := by simp; omega
                have LE := hide (snames_len m (unhide HM) he)
                have L3 := hide (unhide L2 _ (unhide RE) (e : Int))
                rw [unhide NM e he] at L3
                go_wp2_with fail
                refine (unhide L3).mono ?_
                rintro e' W8 ⟨v3, rfl, ho3, b8⟩
                have R8 := hide ((unhide RE).call b8)
                have B8 := hide ((unhide BE).trans (b8.mono (unhide BE).size))
                obtain ⟨a3, c3, rfl, hn3⟩ := name_cells ho3
                have HN3 := hide hn3
                clear b8 ho3 RE BE L3 hn3
                generalize Img.snames m (e : Int) = NE at HN3 LE ⊢
                have W8B := hide (Below.refl W8.heap.size W8)
                have lz3 : (NE.length : Int) ≤ 4 := by have := unhide LE; omega
                go_wp2_with fail
                go_loopw [20] (fun i wr => ∃ q : Nat, q ≤ NE.length ∧ i = .int .i64 q ∧ Hid (Ri w bf bc br g m k last S j wr) ∧ Hid (Below W7.heap.size W7 wr) ∧ Hid (Below W8.heap.size W8 wr)) (fun i _ => NE.length - (intOf i).toNat)
                case atStart => exact ⟨0, Nat.zero_le _, rfl, R8, B8, W8B⟩
                case round =>
                  clear R8 B8 W8B
                  obtain ⟨q, hq, rfl, RQ, BQ, BQ8⟩ := hrel
                  by_cases hlq : q < NE.length
                  case neg =>
                    go_wp2_with fail
                    go_roundw
                    case rel => exact ⟨e + 1, by omega, by go_num, RQ, BQ⟩
                    case measure => simp [intOf]; omega
                  have hqn : (q : Int) < (NE.length : Int) := by omega
                  obtain ⟨gm, rfl, gml, hcm⟩ := unhide HN3 q hlq
                  have HCM := hide hcm
                  clear hcm HN3
                  generalize NE[q] = om at HCM
                  have SQ := unhide SA d e hd he nm om
                  have X1 := hide fun W (r : Ri w bf bc br g m k last S j W) => r.fo.same (d : Int) nm (e : Int) om
                  have X2 := hide fun W (r : Ri w bf bc br g m k last S j W) => unhide A2 W r (d : Int) nm (e : Int) om
                  rw [SQ] at X2
                  generalize Img.ssame m (d : Int) nm (e : Int) om = sv at X1 X2
                  have Rd := hide ((unhide RQ).call ((Below.refl _ wr).drew))
                  have Bd := hide ((unhide BQ).trans ((Below.refl _ wr).drew.mono (unhide BQ).size))
                  have Bd8 := hide ((unhide BQ8).trans ((Below.refl _ wr).drew.mono (unhide BQ8).size))
                  have S0 : (fun W : World => W.cell? ⟨gn, ii, none⟩ = some (.string nm) ∧ W.cell? ⟨gm, q, none⟩ = some (.string om)) wr.drew := ⟨unhide HC _ (unhide Bd), unhide HCM _ (unhide Bd8)⟩
                  clear SQ RQ BQ BQ8
                  go_wp2_with fail
                  refine wp_region_held_drew (S := fun W : World => W.cell? ⟨gn, ii, none⟩ = some (.string nm) ∧ W.cell? ⟨gm, q, none⟩ = some (.string om)) (by kernel_rfl) (S0) (fun hS => ?_)
                  refine wpAnyH_take (i := 0) (oi := { dst := some 141, op := Op.move (Operand.tmp 3), type := 42, pos := "law05.go:126", after := #[], guard := none }) (v := .pointer (some ⟨bf, 0, none⟩)) rfl (by kernel_rfl) (by kernel_rfl) (by kernel_rfl) (fun _ _ _ h => h) (Or.inl ⟨by kernel_rfl, fun W h => (by first | kernel_rfl | go_simp)⟩) hS ?_
                  try simp only [Act.put, List.setIfInBounds_toArray, List.set_cons_zero, List.set_cons_succ]
                  refine wpAnyH_take (i := 1) (oi := { dst := some 142, op := Op.move (Operand.tmp 8), type := 3, pos := "law05.go:126", after := #[], guard := none }) (v := .int .i64 (d : Nat)) rfl (by kernel_rfl) (by kernel_rfl) (by kernel_rfl) (fun _ _ _ h => h) (Or.inl ⟨by kernel_rfl, fun W h => (by first | kernel_rfl | go_simp)⟩) hS ?_
                  try simp only [Act.put, List.setIfInBounds_toArray, List.set_cons_zero, List.set_cons_succ]
                  refine wpAnyH_take (i := 2) (oi := { dst := some 143, op := Op.move (Operand.tmp 9), type := 60, pos := "law05.go:126", after := #[], guard := none }) (v := .slice (some ⟨gn, 0, none⟩) NL.length c1) rfl (by kernel_rfl) (by kernel_rfl) (by kernel_rfl) (fun _ _ _ h => h) (Or.inl ⟨by kernel_rfl, fun W h => (by first | kernel_rfl | go_simp)⟩) hS ?_
                  try simp only [Act.put, List.setIfInBounds_toArray, List.set_cons_zero, List.set_cons_succ]
                  refine wpAnyH_take (i := 3) (oi := { dst := some 144, op := Op.move (Operand.tmp 10), type := 3, pos := "law05.go:126", after := #[], guard := none }) (v := .int .i64 (ii : Nat)) rfl (by kernel_rfl) (by kernel_rfl) (by kernel_rfl) (fun _ _ _ h => h) (Or.inl ⟨by kernel_rfl, fun W h => (by first | kernel_rfl | go_simp)⟩) hS ?_
                  try simp only [Act.put, List.setIfInBounds_toArray, List.set_cons_zero, List.set_cons_succ]
                  refine wpAnyH_take (i := 4) (oi := { dst := some 145, op := Op.indexAddr 60 (Operand.tmp 143) (Operand.tmp 144), type := 0, pos := "law05.go:126", after := #[{ on := 2, ground := Ground.data }, { on := 3, ground := Ground.data }], guard := none }) (v := .pointer (some ⟨gn, ii, none⟩)) rfl (by kernel_rfl) (by kernel_rfl) (by kernel_rfl) (fun _ _ _ h => h) (Or.inl ⟨by kernel_rfl, fun W h => Op1.ix_str (c := c1) (.tmp 143) (.tmp 144) (by kernel_rfl) (by kernel_rfl) (by kernel_rfl) hlt W⟩) hS ?_
                  try simp only [Act.put, List.setIfInBounds_toArray, List.set_cons_zero, List.set_cons_succ]
                  refine wpAnyH_take (i := 5) (oi := { dst := some 146, op := Op.load 9 (Operand.tmp 145), type := 9, pos := "law05.go:126", after := #[{ on := 4, ground := Ground.data }], guard := none }) (v := .string nm) rfl (by kernel_rfl) (by kernel_rfl) (by kernel_rfl) (fun _ _ _ h => h) (Or.inl ⟨by kernel_rfl, fun W h => Op1.ld_str (.tmp 145) (by kernel_rfl) (by kernel_rfl) W (h.1)⟩) hS ?_
                  try simp only [Act.put, List.setIfInBounds_toArray, List.set_cons_zero, List.set_cons_succ]
                  refine wpAnyH_take (i := 6) (oi := { dst := some 147, op := Op.move (Operand.tmp 18), type := 3, pos := "law05.go:126", after := #[], guard := none }) (v := .int .i64 (e : Nat)) rfl (by kernel_rfl) (by kernel_rfl) (by kernel_rfl) (fun _ _ _ h => h) (Or.inl ⟨by kernel_rfl, fun W h => (by first | kernel_rfl | go_simp)⟩) hS ?_
                  try simp only [Act.put, List.setIfInBounds_toArray, List.set_cons_zero, List.set_cons_succ]
                  refine wpAnyH_take (i := 7) (oi := { dst := some 148, op := Op.move (Operand.tmp 19), type := 60, pos := "law05.go:126", after := #[], guard := none }) (v := .slice (some ⟨gm, 0, none⟩) NE.length c3) rfl (by kernel_rfl) (by kernel_rfl) (by kernel_rfl) (fun _ _ _ h => h) (Or.inl ⟨by kernel_rfl, fun W h => (by first | kernel_rfl | go_simp)⟩) hS ?_
                  try simp only [Act.put, List.setIfInBounds_toArray, List.set_cons_zero, List.set_cons_succ]
                  refine wpAnyH_take (i := 8) (oi := { dst := some 149, op := Op.move (Operand.tmp 20), type := 3, pos := "law05.go:126", after := #[], guard := none }) (v := .int .i64 (q : Nat)) rfl (by kernel_rfl) (by kernel_rfl) (by kernel_rfl) (fun _ _ _ h => h) (Or.inl ⟨by kernel_rfl, fun W h => (by first | kernel_rfl | go_simp)⟩) hS ?_
                  try simp only [Act.put, List.setIfInBounds_toArray, List.set_cons_zero, List.set_cons_succ]
                  refine wpAnyH_take (i := 9) (oi := { dst := some 150, op := Op.indexAddr 60 (Operand.tmp 148) (Operand.tmp 149), type := 0, pos := "law05.go:126", after := #[{ on := 7, ground := Ground.data }, { on := 8, ground := Ground.data }], guard := none }) (v := .pointer (some ⟨gm, q, none⟩)) rfl (by kernel_rfl) (by kernel_rfl) (by kernel_rfl) (fun _ _ _ h => h) (Or.inl ⟨by kernel_rfl, fun W h => Op1.ix_str (c := c3) (.tmp 148) (.tmp 149) (by kernel_rfl) (by kernel_rfl) (by kernel_rfl) hlq W⟩) hS ?_
                  try simp only [Act.put, List.setIfInBounds_toArray, List.set_cons_zero, List.set_cons_succ]
                  refine wpAnyH_take (i := 10) (oi := { dst := some 151, op := Op.load 9 (Operand.tmp 150), type := 9, pos := "law05.go:126", after := #[{ on := 9, ground := Ground.data }], guard := none }) (v := .string om) rfl (by kernel_rfl) (by kernel_rfl) (by kernel_rfl) (fun _ _ _ h => h) (Or.inl ⟨by kernel_rfl, fun W h => Op1.ld_str (.tmp 150) (by kernel_rfl) (by kernel_rfl) W (h.2)⟩) hS ?_
                  try simp only [Act.put, List.setIfInBounds_toArray, List.set_cons_zero, List.set_cons_succ]
                  refine wpAnyH_take (i := 12) (oi := { dst := some 153, op := Op.move (Operand.tmp 4), type := 67, pos := "law05.go:126", after := #[], guard := none }) (v := .pointer (some ⟨br, 0, none⟩)) rfl (by kernel_rfl) (by kernel_rfl) (by kernel_rfl) (fun _ _ _ h => h) (Or.inl ⟨by kernel_rfl, fun W h => (by first | kernel_rfl | go_simp)⟩) hS ?_
                  try simp only [Act.put, List.setIfInBounds_toArray, List.set_cons_zero, List.set_cons_succ]
                  refine wpAnyH_take (i := 13) (oi := { dst := some 154, op := Op.move (Operand.tmp 8), type := 3, pos := "law05.go:126", after := #[], guard := none }) (v := .int .i64 (d : Nat)) rfl (by kernel_rfl) (by kernel_rfl) (by kernel_rfl) (fun _ _ _ h => h) (Or.inl ⟨by kernel_rfl, fun W h => (by first | kernel_rfl | go_simp)⟩) hS ?_
                  try simp only [Act.put, List.setIfInBounds_toArray, List.set_cons_zero, List.set_cons_succ]
                  refine wpAnyH_take (i := 14) (oi := { dst := some 155, op := Op.move (Operand.tmp 9), type := 60, pos := "law05.go:126", after := #[], guard := none }) (v := .slice (some ⟨gn, 0, none⟩) NL.length c1) rfl (by kernel_rfl) (by kernel_rfl) (by kernel_rfl) (fun _ _ _ h => h) (Or.inl ⟨by kernel_rfl, fun W h => (by first | kernel_rfl | go_simp)⟩) hS ?_
                  try simp only [Act.put, List.setIfInBounds_toArray, List.set_cons_zero, List.set_cons_succ]
                  refine wpAnyH_take (i := 15) (oi := { dst := some 156, op := Op.move (Operand.tmp 10), type := 3, pos := "law05.go:126", after := #[], guard := none }) (v := .int .i64 (ii : Nat)) rfl (by kernel_rfl) (by kernel_rfl) (by kernel_rfl) (fun _ _ _ h => h) (Or.inl ⟨by kernel_rfl, fun W h => (by first | kernel_rfl | go_simp)⟩) hS ?_
                  try simp only [Act.put, List.setIfInBounds_toArray, List.set_cons_zero, List.set_cons_succ]
                  refine wpAnyH_take (i := 16) (oi := { dst := some 157, op := Op.indexAddr 60 (Operand.tmp 155) (Operand.tmp 156), type := 0, pos := "law05.go:126", after := #[{ on := 14, ground := Ground.data }, { on := 15, ground := Ground.data }], guard := none }) (v := .pointer (some ⟨gn, ii, none⟩)) rfl (by kernel_rfl) (by kernel_rfl) (by kernel_rfl) (fun _ _ _ h => h) (Or.inl ⟨by kernel_rfl, fun W h => Op1.ix_str (c := c1) (.tmp 155) (.tmp 156) (by kernel_rfl) (by kernel_rfl) (by kernel_rfl) hlt W⟩) hS ?_
                  try simp only [Act.put, List.setIfInBounds_toArray, List.set_cons_zero, List.set_cons_succ]
                  refine wpAnyH_take (i := 17) (oi := { dst := some 158, op := Op.load 9 (Operand.tmp 157), type := 9, pos := "law05.go:126", after := #[{ on := 16, ground := Ground.data }], guard := none }) (v := .string nm) rfl (by kernel_rfl) (by kernel_rfl) (by kernel_rfl) (fun _ _ _ h => h) (Or.inl ⟨by kernel_rfl, fun W h => Op1.ld_str (.tmp 157) (by kernel_rfl) (by kernel_rfl) W (h.1)⟩) hS ?_
                  try simp only [Act.put, List.setIfInBounds_toArray, List.set_cons_zero, List.set_cons_succ]
                  refine wpAnyH_take (i := 18) (oi := { dst := some 159, op := Op.move (Operand.tmp 18), type := 3, pos := "law05.go:126", after := #[], guard := none }) (v := .int .i64 (e : Nat)) rfl (by kernel_rfl) (by kernel_rfl) (by kernel_rfl) (fun _ _ _ h => h) (Or.inl ⟨by kernel_rfl, fun W h => (by first | kernel_rfl | go_simp)⟩) hS ?_
                  try simp only [Act.put, List.setIfInBounds_toArray, List.set_cons_zero, List.set_cons_succ]
                  refine wpAnyH_take (i := 19) (oi := { dst := some 160, op := Op.move (Operand.tmp 19), type := 60, pos := "law05.go:126", after := #[], guard := none }) (v := .slice (some ⟨gm, 0, none⟩) NE.length c3) rfl (by kernel_rfl) (by kernel_rfl) (by kernel_rfl) (fun _ _ _ h => h) (Or.inl ⟨by kernel_rfl, fun W h => (by first | kernel_rfl | go_simp)⟩) hS ?_
                  try simp only [Act.put, List.setIfInBounds_toArray, List.set_cons_zero, List.set_cons_succ]
                  refine wpAnyH_take (i := 20) (oi := { dst := some 161, op := Op.move (Operand.tmp 20), type := 3, pos := "law05.go:126", after := #[], guard := none }) (v := .int .i64 (q : Nat)) rfl (by kernel_rfl) (by kernel_rfl) (by kernel_rfl) (fun _ _ _ h => h) (Or.inl ⟨by kernel_rfl, fun W h => (by first | kernel_rfl | go_simp)⟩) hS ?_
                  try simp only [Act.put, List.setIfInBounds_toArray, List.set_cons_zero, List.set_cons_succ]
                  refine wpAnyH_take (i := 21) (oi := { dst := some 162, op := Op.indexAddr 60 (Operand.tmp 160) (Operand.tmp 161), type := 0, pos := "law05.go:126", after := #[{ on := 19, ground := Ground.data }, { on := 20, ground := Ground.data }], guard := none }) (v := .pointer (some ⟨gm, q, none⟩)) rfl (by kernel_rfl) (by kernel_rfl) (by kernel_rfl) (fun _ _ _ h => h) (Or.inl ⟨by kernel_rfl, fun W h => Op1.ix_str (c := c3) (.tmp 160) (.tmp 161) (by kernel_rfl) (by kernel_rfl) (by kernel_rfl) hlq W⟩) hS ?_
                  try simp only [Act.put, List.setIfInBounds_toArray, List.set_cons_zero, List.set_cons_succ]
                  refine wpAnyH_take (i := 22) (oi := { dst := some 163, op := Op.load 9 (Operand.tmp 162), type := 9, pos := "law05.go:126", after := #[{ on := 21, ground := Ground.data }], guard := none }) (v := .string om) rfl (by kernel_rfl) (by kernel_rfl) (by kernel_rfl) (fun _ _ _ h => h) (Or.inl ⟨by kernel_rfl, fun W h => Op1.ld_str (.tmp 162) (by kernel_rfl) (by kernel_rfl) W (h.2)⟩) hS ?_
                  try simp only [Act.put, List.setIfInBounds_toArray, List.set_cons_zero, List.set_cons_succ]
                  refine wpAnyH_ready (rs := [11]) (by kernel_rfl) (by simp) ?_
                  refine AllReadyH.cons (o := { dst := some 152, op := Op.call { callee := Callee.value (Operand.func 24), args := #[Operand.tmp 141, Operand.tmp 142, Operand.tmp 146, Operand.tmp 147, Operand.tmp 151], argTypes := #[42, 3, 9, 3, 9] }, type := 4, pos := "law05.go:126", after := #[{ on := 0, ground := Ground.data }, { on := 1, ground := Ground.data }, { on := 5, ground := Ground.data }, { on := 6, ground := Ground.data }, { on := 10, ground := Ground.data }], guard := none }) rfl (fun K hK => ?_) AllReadyH.nil
                  rw [if_pos (by kernel_rfl)]
                  go_simp
                  refine (unhide X1 _ (unhide Rd)).mono ?_
                  rintro e1 wq ⟨rfl, e9⟩
                  rw [e9]
                  clear e9 wq
                  go_wp2_with fail
                  refine hK.out _ _ (hS) (fun hS2 => ?_)
                  clear hK K
                  try simp only [Act.put, List.setIfInBounds_toArray, List.set_cons_zero, List.set_cons_succ]
                  refine wpAnyH_ready (rs := [23]) (by kernel_rfl) (by simp) ?_
                  refine AllReadyH.cons (o := { dst := some 164, op := Op.call { callee := Callee.value (Operand.func 34), args := #[Operand.tmp 153, Operand.tmp 154, Operand.tmp 158, Operand.tmp 159, Operand.tmp 163], argTypes := #[67, 3, 9, 3, 9] }, type := 4, pos := "law05.go:126", after := #[{ on := 12, ground := Ground.data }, { on := 13, ground := Ground.data }, { on := 17, ground := Ground.data }, { on := 18, ground := Ground.data }, { on := 22, ground := Ground.data }, { on := 11, ground := Ground.chain }], guard := none }) rfl (fun K hK => ?_) AllReadyH.nil
                  rw [if_pos (by kernel_rfl)]
                  go_simp
                  refine (unhide X2 _ (unhide Rd)).mono ?_
                  rintro e1 W9 ⟨rfl, q9, e9⟩
                  have b9 : Below wr.drew.heap.size wr.drew W9 := by rw [e9]; exact belowN (Below.refl _ _)
                  have R9 := hide ((unhide Rd).call b9)
                  have B9 := hide ((unhide Bd).trans (b9.mono (unhide Bd).size))
                  have B98 := hide ((unhide Bd8).trans (b9.mono (unhide Bd8).size))
                  have S9 : (fun W : World => W.cell? ⟨gn, ii, none⟩ = some (.string nm) ∧ W.cell? ⟨gm, q, none⟩ = some (.string om)) W9 := ⟨unhide HC _ (unhide B9), unhide HCM _ (unhide B98)⟩
                  clear e9 b9
                  go_wp2_with fail
                  refine hK.out _ _ (S9) (fun hS9 => ?_)
                  clear hK K
                  try simp only [Act.put, List.setIfInBounds_toArray, List.set_cons_zero, List.set_cons_succ]
                  refine wpAnyH_take (i := 24) (oi := { dst := some 165, op := Op.binOp BinOp.neq 4 (Operand.tmp 152) (Operand.tmp 164) 4, type := 4, pos := "law05.go:126", after := #[{ on := 11, ground := Ground.data }, { on := 23, ground := Ground.data }], guard := none }) (v := .bool false) rfl (by kernel_rfl) (by kernel_rfl) (by kernel_rfl) (fun _ _ _ h => h) (Or.inl ⟨by kernel_rfl, fun W h => Op1.neb (v := sv) (.tmp 152) (.tmp 164) (by kernel_rfl) (by kernel_rfl) (by kernel_rfl) W⟩) hS9 ?_
                  try simp only [Act.put, List.setIfInBounds_toArray, List.set_cons_zero, List.set_cons_succ]
                  refine wpAnyH_done (by kernel_rfl) ?_ _
                  clear hS hS2 hS9 S0 S9
                  go_wp2_with fail
                  go_roundw
                  case rel => exact ⟨q + 1, by omega, by go_num, R9, B9, B98⟩
                  case measure => simp [intOf]; omega
end Sft
end Go.Proofs.YtmlhalhjfcfagabGreat
namespace Go.Proofs.YtmlhalhjfcfagabGreat
open Go.ChangeShapes Go.WideShapes Go.ChangeAt Go.RowKit
open Idl (open_steps Steps)
namespace Sft
set_option maxRecDepth 100000 in
theorem softIdeal_lifted (os : Os) (started : os.Started) (H : Type) (enc : TypeId × Value → H) :
    ReturnsInHanded {} Tryz.checked os 4 .any (Rows.softIdealSpec.pre6 enc Tryz.prog Tryz.f4 Rows.softIdealRow.domain false) (Rows.softIdealSpec.post enc Tryz.prog Tryz.f4 false true false false) := by
  refine returnsInHanded_of_change_sized (C := Tryz.checked) Idl.TryI.own started (by kernel_rfl) Tryz.func4
    (ChangeSpec.witness6 (enc := enc) (C := Tryz.checked) false ⟨#[], #[.slice none 0 0], []⟩ 8 (by kernel_rfl) (by kernel_rfl) (by kernel_rfl) (by kernel_rfl)) ?_
  intro W base args ds gs before hval0 hW _ hsz0 _
  have hsz : (DataW.weightsEach Tryz.prog (Tryz.f4.params.toList ++ Rows.softIdealSpec.plain.varTypes Tryz.prog) (ds ++ gs)).all (· ≤ reachBytes) = true := hsz0
  clear hsz0
  have hval : ∀ (j : Nat) t v, Tryz.f4.params[j]? = some t → args[j]? = some v → Value.okWide Tryz.prog W .any base t v := hval0
  have hW' := hW
  obtain ⟨p, q, hA0, hV, rfl, _, _⟩ := hW
  have hA : DataW.TrodAll enc Tryz.prog W 0 (fun _ => true) true Tryz.f4.params.toList args.toList ds p := hA0
  rw [Tryz.params4] at hA hval hsz
  obtain ⟨v0, d0, rfl, rfl, h0⟩ := trodAll_one hA
  obtain ⟨rfl, rfl⟩ := trodVars_none hV
  obtain ⟨a0, len, cap, rfl⟩ := okWide_slice Tryz.underlying35 (hval 0 35 v0 rfl rfl)
  have lt0 : ∀ y ∈ p, y.block < W.heap.size := by obtain ⟨n, hn⟩ := h0; exact DataW.trod_lt n _ _ _ hn
  clear hA0 hval0
  have w0 : ∀ n ∈ d0.weights Tryz.prog 35, n ≤ reachBytes := fun n hn => by
    simpa using List.all_eq_true.1 hsz _ (DataW.weights_mem_each (j := 0) (t := 35) (d := d0) rfl rfl n hn)
  obtain ⟨L, hL⟩ := open_steps h0 w0
  refine (softIdeal_any hL).mono fun e W' ⟨he, bel⟩ => ?_
  subst he
  exact ⟨_, rfl, _, _, _, [], _, [], hW', trodAll_mk1 (shut_bool Tryz.underlying4 _), (trodAll_cons_mk (Below.trod Idl.TryI.laidOut (by kernel_rfl) (of_decide_eq_true (by kernel_rfl)) h0 bel lt0) trodAll_mk0), rfl, bel.frame _, fun h => by cases h⟩
end Sft
theorem softIdeal_holds : Rows.SoftIdealSaid :=
  OpenClaim.holds_of_wide 4 Tryz.f4 rfl rfl rfl rfl rfl rfl rfl ⟨rfl, rfl, rfl, rfl, rfl⟩ rfl rfl rfl rfl rfl (by kernel_rfl) Tryz.func4 (by kernel_rfl)
    (of_decide_eq_true (by kernel_rfl)) (by unfold Func.isWrapper; first | (rw [if_pos (by decide +kernel)]; kernel_rfl) | (rw [if_neg (by decide +kernel)]; exact ⟨rfl, rfl⟩))
    (fun os started H enc _ => Sft.softIdeal_lifted os started H enc)
#print axioms softIdeal_holds
end Go.Proofs.YtmlhalhjfcfagabGreat
