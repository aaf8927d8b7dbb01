/-
  The law DeskJoins: its walk.
-/
import Derived.Test.YtfpfpnhpbnnmfadGreatDoorXbx
set_option linter.unusedVariables false
namespace Go.Proofs.YtfpfpnhpbnnmfadGreatDoor
open Go.RowKit
open Idl (Stp chk stpA strs)
theorem cut_form (cut : Int) (n : Nat) (hn : n ≤ 150) : ∃ k : Nat, k ≤ n ∧ wrap64 ((IntKind.u64.wrap cut).tmod ((n : Int) + 1)) = (k : Int) ∧ (IntKind.u64.wrap cut).tmod ((n : Int) + 1) = (k : Int) := by
  have h0 : 0 ≤ IntKind.u64.wrap cut := by
    rw [show IntKind.u64.wrap cut = cut % 18446744073709551616 from rfl]
    omega
  have h1 := Int.tmod_nonneg ((n : Int) + 1) h0
  have h2 := Int.tmod_lt_of_pos (IntKind.u64.wrap cut) (show (0 : Int) < (n : Int) + 1 by omega)
  obtain ⟨k, hk⟩ := Int.eq_ofNat_of_zero_le h1
  refine ⟨k, by omega, ?_, hk⟩
  rw [hk]
  unfold wrap64
  omega
theorem Op9.cut_lo {P : Program} {size : Nat} {o : Oper} {ρ : Operand → Value} (x y : Operand) (ty : TypeId) (ho : o.op = .slice ty x none (some y) none) {a : Option Addr} {m cap k : Nat} (hx : ρ x = .slice a m cap) (hy : ρ y = .int .i64 (k : Int)) (hk : k ≤ cap)
    (hu : P.underlying ty = some (.slice (P.elem ty))) (hs : (P.info? (P.elem ty)).map (·.size) = some size) (w : World) : (execOp ρ o).run P w = .ok (.value (sliced a 0 k cap size)) w := by
  cases hq : P.info? (P.elem ty) with
  | none => rw [hq] at hs; cases hs
  | some q =>
    rw [hq] at hs
    have hs' : q.size = size := by simpa using hs
    have := run_slice_h (P := P) w ty a m cap hu .i64 (k : Int) (by omega) (by omega)
    unfold execOp
    simp [ho, hx, hy, run_sliceAt_slice, hu, this, sizeOf, typeInfo, hq, hs']
theorem wds_take {w : World} {a : Option Addr} {L : List ByteArray} {c k : Nat} (h : Wds w (.slice a L.length c) L) (hc : L.length ≤ c) (hk : k ≤ L.length) : Wds w (sliced a 0 k c 1) (L.take k) := by
  obtain ⟨a', c', e, h⟩ := h
  cases e
  unfold sliced
  refine ⟨_, _, by rw [List.length_take, Nat.min_eq_left hk, Nat.sub_zero], fun i x hx => ?_⟩
  have hi : i < k := by have := (List.getElem?_eq_some_iff.1 hx).1; rw [List.length_take] at this; omega
  rw [List.getElem?_take_of_lt hi] at hx
  obtain ⟨g, o, e1, e2⟩ := h i x hx
  subst e1
  rw [if_neg (by omega)]
  exact ⟨g, o + 0 * 1, by rw [Option.map_some, Addr.add_lit], by rw [show o + 0 * 1 + i = o + i by omega]; exact e2⟩
theorem wds_drop {w : World} {a : Option Addr} {L : List ByteArray} {c k : Nat} (h : Wds w (.slice a L.length c) L) (hc : L.length ≤ c) (hk : k ≤ L.length) : Wds w (sliced a k L.length c 1) (L.drop k) := by
  obtain ⟨a', c', e, h⟩ := h
  cases e
  unfold sliced
  refine ⟨_, _, by rw [List.length_drop], fun i x hx => ?_⟩
  have hi := (List.getElem?_eq_some_iff.1 hx).1
  rw [List.length_drop] at hi
  rw [List.getElem?_drop] at hx
  obtain ⟨g, o, e1, e2⟩ := h (k + i) x hx
  subst e1
  rw [if_neg (by omega)]
  exact ⟨g, o + k * 1, by rw [Option.map_some, Addr.add_lit], by rw [show o + k * 1 + i = o + (k + i) by omega]; exact e2⟩
/-- a block that is none of a desk's -/
def Ap (x bd bl bf bc : Nat) : Prop := x ≠ bd ∧ x ≠ bl ∧ x ≠ bf ∧ x ≠ bc
/-- two desks have no block in common -/
structure Aps (d1 l1 f1 c1 d2 l2 f2 c2 : Nat) : Prop where
  d : Ap d1 d2 l2 f2 c2
  l : Ap l1 d2 l2 f2 c2
  f : Ap f1 d2 l2 f2 c2
  c : Ap c1 d2 l2 f2 c2
section
variable {w W W' : World} {B B2 d1 l1 f1 c1 d2 l2 f2 c2 f' c' : Nat} {S T : Lv} {l : List UInt8}
theorem Aps.sym (h : Aps d1 l1 f1 c1 d2 l2 f2 c2) : Aps d2 l2 f2 c2 d1 l1 f1 c1 := by
  obtain ⟨⟨a1, a2, a3, a4⟩, ⟨b1, b2, b3, b4⟩, ⟨e1, e2, e3, e4⟩, ⟨g1, g2, g3, g4⟩⟩ := h
  exact ⟨⟨a1.symm, b1.symm, e1.symm, g1.symm⟩, ⟨a2.symm, b2.symm, e2.symm, g2.symm⟩, ⟨a3.symm, b3.symm, e3.symm, g3.symm⟩, ⟨a4.symm, b4.symm, e4.symm, g4.symm⟩⟩
/-- the first desk did something: the other is as it was, and apart still -/
theorem Aps.go (h : Aps d1 l1 f1 c1 d2 l2 f2 c2) (k : Dk w B2 d2 l2 f2 c2 T [] W) (d : Dd d1 l1 f1 c1 f' c' W W') (hb : Below w.heap.size w W') : Dk w B2 d2 l2 f2 c2 T [] W' ∧ Aps d1 l1 f' c' d2 l2 f2 c2 := by
  have s := h.sym
  refine ⟨k.other d s.d s.l s.f s.c hb, h.d, h.l, ?_, ?_⟩
  · have h1 := k.lt
    have h2 := k.lo.lt
    have h3 := k.lo.flt
    have h4 := k.lo.clt
    rcases d.new with ⟨rfl, rfl⟩ | ⟨z1, z2⟩
    · exact h.f
    · exact ⟨by omega, by omega, by omega, by omega⟩
  · have h1 := k.lt
    have h2 := k.lo.lt
    have h3 := k.lo.flt
    have h4 := k.lo.clt
    rcases d.new with ⟨rfl, rfl⟩ | ⟨z1, z2⟩
    · exact h.c
    · exact ⟨by omega, by omega, by omega, by omega⟩
theorem aps_new (h : Dk w B d1 l1 f1 c1 S l W) (h1 : W.heap.size ≤ d2) (h2 : W.heap.size ≤ l2) (h3 : W.heap.size ≤ f2) (h4 : W.heap.size ≤ c2) : Aps d1 l1 f1 c1 d2 l2 f2 c2 := by
  have k1 := h.lt
  have k2 := h.lo.lt
  have k3 := h.lo.flt
  have k4 := h.lo.clt
  exact ⟨⟨by omega, by omega, by omega, by omega⟩, ⟨by omega, by omega, by omega, by omega⟩, ⟨by omega, by omega, by omega, by omega⟩, ⟨by omega, by omega, by omega, by omega⟩⟩
/-- a box of the law's own, behind a Do -/
theorem Dd.box (d : Dd d1 l1 f1 c1 f' c' W W') (h : Dk w B d1 l1 f1 c1 S l W) {g : Nat} {cs : Array Value} (r : W.heap[g]? = some (.cells cs 31)) : W'.heap[g]? = some (.cells cs 31) := by
  obtain ⟨ds, hd⟩ := h.row
  obtain ⟨a, b, f⟩ := h.lo.fo.it
  rw [d.old _ (Array.getElem?_eq_some_iff.1 r).1 (row_ne r hd (by decide)) (row_ne r h.lo.root (by decide)) (row_ne r f.root (by decide)) (row_ne r f.row (by decide))]
  exact r
end
namespace Dsk
theorem _root_.Go.Proofs.YtfpfpnhpbnnmfadGreatDoor.Ok.more9 {S : Lv} {n : Nat} (h : S.Ok (0 + n)) (hm : n ≤ 150) : S.Ok 150 := Ok.more h (by omega)
theorem doN_ok {S : Lv} {n : Nat} (h : S.Ok n) (L : List ByteArray) : (doN S L).Ok (n + L.length) := by
  unfold doN
  split
  · exact nexts_ok h
  · exact Ok.more h (by omega)
theorem doN_neat {S : Lv} {n : Nat} (h : S.Ok n) (hN : S.Neat) (L : List ByteArray) (hn : n + L.length ≤ 1000000) : (doN S L).Neat := by
  unfold doN
  split
  · exact nexts_neat h hN hn
  · exact hN
theorem doT_len {S : Lv} {n : Nat} (h : S.Ok n) (hN : S.Neat) (hn : n + 150 ≤ 1000000) (L : List ByteArray) : (doT S L).length ≤ 2400000000 := by
  unfold doT
  split
  · rename_i hf
    have hL : L.length ≤ 150 := by
      unfold fine many at hf
      simp at hf
      omega
    have p := (path_of h hN L (by omega)).len L.length (Nat.le_refl _)
    rw [pathTell_of S L _ (Nat.le_refl _), List.take_length] at p
    omega
  · exact Nat.zero_le _
theorem _root_.Go.Proofs.YtfpfpnhpbnnmfadGreatDoor.cat_list (x y : List UInt8) : ((⟨x.toArray⟩ : ByteArray) ++ (⟨y.toArray⟩ : ByteArray)).toList = x ++ y := by
  rw [ByteArray.toList_eq, ByteArray.data_append]
  simp
theorem fine_iff {L : List ByteArray} (h : L.length ≤ 150) : fine L = true ↔ ∀ s ∈ L, hasNl s = false := by
  unfold fine many
  rw [← torn_neg]
  simp; omega
theorem fine_cut {L : List ByteArray} (h : L.length ≤ 150) (k : Nat) : fine L = (fine (L.take k) && fine (L.drop k)) := by
  have h1 := fine_iff (L := L.take k) (by rw [List.length_take]; omega)
  have h2 := fine_iff (L := L.drop k) (by rw [List.length_drop]; omega)
  have h0 := fine_iff h
  rw [Bool.eq_iff_iff, Bool.and_eq_true, h0, h1, h2]
  constructor
  · intro z
    exact ⟨fun s hs => z s (List.mem_of_mem_take hs), fun s hs => z s (List.mem_of_mem_drop hs)⟩
  · rintro ⟨z1, z2⟩ s hs
    rw [← List.take_append_drop k L] at hs
    rcases List.mem_append.1 hs with y | y
    · exact z1 s y
    · exact z2 s y
theorem joins {L : List ByteArray} (h : L.length ≤ 150) (k : Nat) (S : Lv) (hf : fine L = true) : doT S (L.take k) ++ doT (doN S (L.take k)) (L.drop k) = doT S L := by
  have e := fine_cut h k
  rw [hf] at e
  have e2 := Bool.and_eq_true_iff.1 e.symm
  unfold doT doN
  rw [hf, e2.1, e2.2]
  simp only [if_true]
  rw [← tells_append, List.take_append_drop]
end Dsk
set_option maxHeartbeats 4000000 in
set_option maxRecDepth 100000 in
theorem deskJoins_any (L : List ByteArray) (hL : L.length ≤ maxLen) (hs : ∀ s ∈ L, s.size ≤ 140737488355328) (a : Option Addr) (c : Nat) (hcap : L.length ≤ c) (cut : Int) (w : World) (hv : Wds w (.slice a L.length c) L) (tb : Tabs w) :
    Calls Tryz.prog 4 #[.slice a L.length c, .int .i64 cut] w fun e w' => e = .returned (.bool true) ∧ Below w.heap.size w w' := by
  have D0 := hide (deskBegun_any w tb)
  have HV := hide hv
  have TB := hide tb
  have SL := hide (fun V (b : Below w.heap.size w V) => slow_any L hL hs _ V (hv.below b))
  clear tb hs hv
  unfold maxLen at hL
  go_enter Tryz.func4, Tryz.ntmps4
  go_wp2_with fail
  refine (unhide D0).mono ?_
  rintro e w1 ⟨rfl, b1⟩
  have B1 := hide b1
  clear b1 D0
  by_cases hm : 150 < L.length
  case pos =>
    have hz : decide ((150 : Int) < (L.length : Int)) = true := by simp; omega
    clear hm
    go_wp2_with fail
    go_ret
    exact ⟨rfl, unhide B1⟩
  have hz : decide ((150 : Int) < (L.length : Int)) = false := by simp; omega
  go_wp2_with fail
  refine (unhide SL w1 (unhide B1)).mono ?_
  rintro e w2 ⟨⟨b, rfl, hb⟩, e9⟩
  rw [e9]
  clear e9 w2 SL
  have HB := hide hb
  clear hb
  cases b
  case true =>
    go_wp2_with fail
    go_ret
    exact ⟨rfl, unhide B1⟩
  have SH := hide (unhide HB rfl)
  clear HB
  go_upto_region 6 with fail
  obtain ⟨k, hk, ek, ez⟩ := cut_form cut L.length (by omega)
  rw [ek, ez]
  clear ek ez
  have hL5 : L.length ≤ 150 := by omega
  have W1 := hide (wds_take (unhide HV) hcap hk)
  have W2 := hide (wds_drop (unhide HV) hcap hk)
  obtain ⟨sv1, hv1⟩ : ∃ s, sliced a 0 k c 1 = s := ⟨_, rfl⟩
  obtain ⟨sv2, hv2⟩ : ∃ s, sliced a k L.length c 1 = s := ⟨_, rfl⟩
  rw [hv1] at W1
  rw [hv2] at W2
  have V1 := hide hv1
  have V2 := hide hv2
  have hkc : k ≤ c := by omega
  clear hv1 hv2
  have S0 := hide (show ∀ s ∈ L.take k, s.size ≤ 50000 from fun s hs => unhide SH s (List.mem_of_mem_take hs))
  have S1 := hide (show ∀ s ∈ L.drop k, s.size ≤ 50000 from fun s hs => unhide SH s (List.mem_of_mem_drop hs))
  have T1 : (L.take k).length ≤ 150 := by rw [List.length_take]; omega
  have T2 : (L.drop k).length ≤ 150 := by rw [List.length_drop]; omega
  have OK1 := hide (Ok.more9 (Dsk.doN_ok Lv.Ok.start (L.take k)) T1)
  have NE1 := hide (Dsk.doN_neat Lv.Ok.start Lv.Neat.start (L.take k) (by omega))
  have FC := hide (Dsk.fine_cut hL5 k)
  have JN := hide (Dsk.joins hL5 k Lv.new)
  have LN1 := hide (Dsk.doT_len Lv.Ok.start Lv.Neat.start (by omega) (L.take k))
  have LN3 := hide (Dsk.doT_len (unhide OK1) (unhide NE1) (by omega) (L.drop k))
  generalize hT : Dsk.doN Lv.new (L.take k) = T at OK1 NE1 JN LN3
  have ET := hide hT
  clear hT
  have HZ := hide hz
  have N1 := hide (dNew_any w (unhide B1))
  go_wp2_with fail
  refine (unhide N1).mono ?_
  rintro e w2 ⟨bd, bl, bf, bc, rfl, _, _, _, _, h2, b2⟩
  have N2 := hide (dNew_any w ((unhide B1).trans (b2.mono (unhide B1).size)))
  have H2 := hide h2
  clear N1 h2 b2
  go_wp2_with fail
  refine (unhide N2).mono ?_
  rintro e w3 ⟨ed, el, ef, ec, rfl, n1, n2, n3, n4, h3, b3⟩
  have HD := hide ((unhide H2).call b3)
  have HE := hide h3
  have AP := hide (aps_new (unhide H2) n1 n2 n3 n4)
  have DO := hide (do_any (unhide HD) (unhide TB) (L.take k) (by unfold maxLen; omega) (unhide S0) Lv.Ok.start Lv.Neat.start (by omega) sv1 (unhide W1))
  rw [unhide ET] at DO
  clear N2 H2 h3 b3 n1 n2 n3 n4 W1 S0
  unfold fltA at DO
  generalize Dsk.doT Lv.new (L.take k) = tx1 at DO JN LN1
  generalize hc1 : Dsk.doC (L.take k) = cd1 at DO
  generalize Dsk.doAt (L.take k) = at1 at DO
  have C1 := hide (show cd1 = 0 ↔ Dsk.fine (L.take k) = true by rw [← hc1]; exact Dsk.doC_zero _)
  clear hc1
  go_wp2_with (refine wpList_value (v := sv1) rfl (by rw [← unhide V1]; exact Op9.cut_lo (.tmp 37) (.tmp 38) 22 rfl rfl rfl hkc str_under9 str_size9 _) ?_; clear V1)
  refine (unhide DO).mono ?_
  rintro e w4 ⟨rfl, bf', bc', h4, d4⟩
  have G4 := hide ((unhide AP).go (unhide HE) d4 h4.lo.bel)
  have H4 := hide h4
  clear h4 d4 DO HD HE AP
  have b5 : Below w4.heap.size w4 (w4.alloc (.cells #[.int .i64 cd1, .int .i64 at1] 31)) := (Below.refl _ w4).alloc (Nat.le_refl _) _
  have HD := hide ((unhide H4).call b5)
  have HE := hide ((unhide G4).1.call b5)
  have AP := hide (unhide G4).2
  have R1 := hide (heap_alloc_last w4 (.cells #[.int .i64 cd1, .int .i64 at1] 31))
  have DO := hide (do_any (unhide HE) (unhide TB) L (by unfold maxLen; omega) (unhide SH) Lv.Ok.start Lv.Neat.start (by omega) _ (unhide HV))
  clear b5 H4 G4
  unfold fltA at DO
  generalize hx2 : Dsk.doT Lv.new L = tx2 at DO JN
  have X2 := hide hx2
  clear hx2
  generalize hc1 : Dsk.doC L = cd2 at DO
  generalize Dsk.doAt L = at2 at DO
  have C2 := hide (show cd2 = 0 ↔ Dsk.fine L = true by rw [← hc1]; exact Dsk.doC_zero _)
  clear hc1
  go_wp2_with fail
  refine (unhide DO).mono ?_
  rintro e w5 ⟨rfl, ef', ec', h5, d5⟩
  have R2 := hide (d5.box (unhide HE) (unhide R1))
  have G5 := hide ((unhide AP).sym.go (unhide HD) d5 h5.lo.bel)
  clear h5 d5 DO HD HE AP R1
  have b6 : Below w5.heap.size w5 (w5.alloc (.cells #[.int .i64 cd2, .int .i64 at2] 31)) := (Below.refl _ w5).alloc (Nat.le_refl _) _
  have HD := hide ((unhide G5).1.call b6)
  have R3 := hide (show (w5.alloc (.cells #[.int .i64 cd2, .int .i64 at2] 31)).heap[w4.heap.size]? = some (.cells #[.int .i64 cd1, .int .i64 at1] 31) by rw [b6.block _ (Array.getElem?_eq_some_iff.1 (unhide R2)).1]; exact unhide R2)
  have R4 := hide (heap_alloc_last w5 (.cells #[.int .i64 cd2, .int .i64 at2] 31))
  have DO := hide (do_any (unhide HD) (unhide TB) (L.drop k) (by unfold maxLen; omega) (unhide S1) (unhide OK1) (unhide NE1) (by omega) sv2 (unhide W2))
  clear b6 G5 R2 W2 S1 OK1 NE1
  unfold fltA at DO
  generalize Dsk.doT T (L.drop k) = tx3 at DO JN LN3
  generalize hc1 : Dsk.doC (L.drop k) = cd3 at DO
  generalize Dsk.doAt (L.drop k) = at3 at DO
  have C3 := hide (show cd3 = 0 ↔ Dsk.fine (L.drop k) = true by rw [← hc1]; exact Dsk.doC_zero _)
  clear hc1
  go_wp2_with (refine wpList_value (v := sv2) rfl (by rw [← unhide V2]; exact Op9.cut_hi (.tmp 51) (.tmp 52) 22 rfl rfl rfl hk str_under9 str_size9 _) ?_; clear V2)
  refine (unhide DO).mono ?_
  rintro e w6 ⟨rfl, bf6, bc6, h6, d6⟩
  have R5 := hide (d6.box (unhide HD) (unhide R3))
  have R6 := hide (d6.box (unhide HD) (unhide R4))
  have B6 := hide h6.lo.bel
  clear h6 d6 DO HD R3 R4
  have b7 : Below w6.heap.size w6 (w6.alloc (.cells #[.int .i64 cd3, .int .i64 at3] 31)) := (Below.refl _ w6).alloc (Nat.le_refl _) _
  have B7 := hide ((unhide B6).trans (b7.mono (unhide B6).size))
  have R7 := hide (show (w6.alloc (.cells #[.int .i64 cd3, .int .i64 at3] 31)).heap[w4.heap.size]? = some (.cells #[.int .i64 cd1, .int .i64 at1] 31) by rw [b7.block _ (Array.getElem?_eq_some_iff.1 (unhide R5)).1]; exact unhide R5)
  have R8 := hide (show (w6.alloc (.cells #[.int .i64 cd3, .int .i64 at3] 31)).heap[w5.heap.size]? = some (.cells #[.int .i64 cd2, .int .i64 at2] 31) by rw [b7.block _ (Array.getElem?_eq_some_iff.1 (unhide R6)).1]; exact unhide R6)
  have R9 := hide (heap_alloc_last w6 (.cells #[.int .i64 cd3, .int .i64 at3] 31))
  clear b7 R5 R6 B6
  go_upto_region 10 with fail
  try simp only [Act.put]
  generalize w6.heap.size = g6 at *
  generalize w6.alloc (.cells #[.int .i64 cd3, .int .i64 at3] 31) = X at *
  generalize w4.heap.size = g4 at *
  generalize w5.heap.size = g5 at *
  have q4 : X.cell? ⟨g4, 0, none⟩ = some (.int .i64 cd1) := by rw [cell_of_row _ _ _ _ _ _ (unhide R7)]; rfl
  have q5 : X.cell? ⟨g5, 0, none⟩ = some (.int .i64 cd2) := by rw [cell_of_row _ _ _ _ _ _ (unhide R8)]; rfl
  have q6 : X.cell? ⟨g6, 0, none⟩ = some (.int .i64 cd3) := by rw [cell_of_row _ _ _ _ _ _ (unhide R9)]; rfl
  by_cases hf : Dsk.fine L = true
  case neg =>
    have z2 : (cd2 != 0) = true := by simpa using fun z => hf ((unhide C2).1 z)
    have zz : (cd1 != 0) = true ∨ ((cd1 != 0) = false ∧ (cd3 != 0) = true) := by
      have e := unhide FC
      by_cases c1 : cd1 = 0
      · refine .inr ⟨by simpa using c1, ?_⟩
        by_cases c3 : cd3 = 0
        · rw [(unhide C1).1 c1, (unhide C3).1 c3] at e
          exact absurd e hf
        · simpa using c3
      · exact .inl (by simpa using c1)
    clear hf C1 C2 C3 FC JN R7 R8 R9
    rcases zz with z1 | ⟨z1, z3⟩
    · go_wp2_with fail
      go_ret
      exact ⟨rfl, unhide B7⟩
    · go_wp2_with fail
      go_ret
      exact ⟨rfl, unhide B7⟩
  case pos =>
    have e2 := Bool.and_eq_true_iff.1 ((unhide FC).symm.trans hf)
    have z2 := (unhide C2).2 hf
    have z1 := (unhide C1).2 e2.1
    have z3 := (unhide C3).2 e2.2
    have Z4 := hide ((Dsk.doC_zero L).2 hf)
    have J := hide (unhide JN hf)
    clear hf e2 C1 C2 C3 FC JN
    subst z1 z2 z3
    have N3 := hide (dNew_any w (unhide B7))
    go_wp2_with fail
    refine (unhide N3).mono ?_
    rintro e w7 ⟨bd7, bl7, bf7, bc7, rfl, _, _, _, _, h7, b7⟩
    have DO := hide (do_any h7 (unhide TB) L (by unfold maxLen; omega) (unhide SH) Lv.Ok.start Lv.Neat.start (by omega) _ (unhide HV))
    rw [unhide X2, unhide Z4] at DO
    have RA := hide (show w7.heap[g4]? = some (.cells #[.int .i64 0, .int .i64 at1] 31) by rw [b7.block _ (Array.getElem?_eq_some_iff.1 (unhide R7)).1]; exact unhide R7)
    have RB := hide (show w7.heap[g6]? = some (.cells #[.int .i64 0, .int .i64 at3] 31) by rw [b7.block _ (Array.getElem?_eq_some_iff.1 (unhide R9)).1]; exact unhide R9)
    have H7 := hide h7
    unfold fltA at DO
    generalize Dsk.doAt L = at4 at DO
    clear N3 h7 b7 R7 R8 R9 q4 q5 q6 X2 Z4
    go_wp2_with fail
    refine (unhide DO).mono ?_
    rintro e w8 ⟨rfl, bf8, bc8, h8, d8⟩
    have rA := d8.box (unhide H7) (unhide RA)
    have rB := d8.box (unhide H7) (unhide RB)
    have b9 : Below w8.heap.size w8 (w8.alloc (.cells #[.int .i64 0, .int .i64 at4] 31)) := (Below.refl _ w8).alloc (Nat.le_refl _) _
    have B9 := hide (h8.lo.bel.trans (b9.mono h8.lo.bel.size))
    have q4 : (w8.alloc (.cells #[.int .i64 0, .int .i64 at4] 31)).cell? ⟨g4, 0, none⟩ = some (.int .i64 0) := cell_below b9 (by rw [cell_of_row _ _ _ _ _ _ rA]; rfl)
    have q6 : (w8.alloc (.cells #[.int .i64 0, .int .i64 at4] 31)).cell? ⟨g6, 0, none⟩ = some (.int .i64 0) := cell_below b9 (by rw [cell_of_row _ _ _ _ _ _ rB]; rfl)
    clear h8 d8 rA rB b9 DO H7 RA RB
    have j := unhide J
    clear J
    subst j
    have hcat := cat_list tx1 tx3
    have hlen : ¬ 9223372036854775807 < tx1.length + tx3.length := by have := unhide LN1; have := unhide LN3; omega
    go_wp2_with fail
    go_ret
    exact ⟨rfl, unhide B9⟩
end Go.Proofs.YtfpfpnhpbnnmfadGreatDoor
