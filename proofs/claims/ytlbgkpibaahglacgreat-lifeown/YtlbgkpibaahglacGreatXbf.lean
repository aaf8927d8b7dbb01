/-
  The walk of eiderdownlaw.lifeBegun; what the laws of layer 7 share.
-/
import Derived.Test.YtlbgkpibaahglacGreatXbe
import Derived.Test.YtlbgkpibaahglacGreatXbc
import Derived.Test.YtlbgkpibaahglacGreatXbd
import Derived.Test.YtlbgkpibaahglacGreatXca
import Derived.Test.YtlbgkpibaahglacGreatXaz
namespace Go.Proofs.YtlbgkpibaahglacGreat
open Go.RowKit
open Idl (Stp chk stpA strs belowD one_new one_str)
section
variable {P : Program}
/-- an operation that yields a value and leaves the world as it is -/
theorem wpList_value {ops : Array Oper} {rest : List Oper} {o : Oper} {a : Act} {w : World} {Q : Exit → Act → World → Prop} (hgd : o.guard = none) {v : Value} (h0 : (execOp a.eval o).run P w = .ok (.value v) w)
    (h : wpList P ops Q rest (a.put o.dst v) w) : wpList P ops Q (o :: rest) a w :=
  wpList_plain hgd fun _ hK => by
    unfold Oper.wp
    rw [h0]
    exact hK _ _ h
end
section
variable {w W W' : World} {bl bf bc : Nat} {S : Lv}
theorem Img.Hold.clean {m k : Img} {last : Int} (h : Img.Hold m k last) : Img.Hold m m last := ⟨h.good, h.good.ex.ok, Img.fit_self h.good.ex.ok, fun n hn hl => h.good.last n hn hl⟩
theorem Lo.clean (h : Lo w bl bf bc S W) (ha : Img.Agree S.now S.disk) : Lo w bl bf bc { S with disk := S.now } W := by
  refine ⟨?_, h.root, h.l0, h.nf, h.nc⟩
  obtain ⟨⟨cs, ds, f⟩, h2, h3, h4⟩ := h.fo
  have e : cs = ds := f.now.agree f.disk ha
  subst e
  exact ⟨⟨cs, cs, f.root, f.row, f.now, f.now, f.ne⟩, h2, h3, h4⟩
theorem Lv.Ok.clean {n : Nat} (h : S.Ok n) : Lv.Ok { S with disk := S.now } n := ⟨h.hold.clean, h.few, h.cr0, h.crn⟩
end
namespace Lif
open Sft (sA sB small)
theorem ix_step {o : Oper} {ρ : Operand → Value} (x y : Operand) (ho : o.op = .indexAddr 22 x y) {g q n c j : Nat} (hx : ρ x = .slice (some ⟨g, q, none⟩) n c) (hy : ρ y = .int .i64 ((j : Nat) : Int)) (hj : j < n) (w : World) : (execOp ρ o).run Tryz.prog w = .ok (.value (.pointer (some ⟨g, q + j * 7, none⟩))) w := by
  have jz : (j : Int) < (n : Int) := by omega
  unfold execOp
  rw [ho]
  go_simp
set_option maxHeartbeats 1000000 in
theorem ld_step {o : Oper} {ρ : Operand → Value} (x : Operand) (ho : o.op = .load 31 x) {g q : Nat} (hx : ρ x = .pointer (some ⟨g, q, none⟩)) (s : Stp) (w : World) (h : ∀ j u, (stpA s)[j]? = some u → w.cell? ⟨g, q + j, none⟩ = some u) : (execOp ρ o).run Tryz.prog w = .ok (.value (.agg (stpA s))) w := by
  obtain ⟨kind, dir, toDir, p, name, tu, text⟩ := s
  have c0 : w.cell? ⟨g, q, none⟩ = some (.int .i64 kind) := h 0 _ rfl
  have c1 : w.cell? ⟨g, q + 1, none⟩ = some (.int .i64 dir) := h 1 _ rfl
  have c2 : w.cell? ⟨g, q + 2, none⟩ = some (.int .i64 toDir) := h 2 _ rfl
  have c3 : w.cell? ⟨g, q + 3, none⟩ = some (.int .i64 p) := h 3 _ rfl
  have c4 : w.cell? ⟨g, q + 4, none⟩ = some (.string name) := h 4 _ rfl
  have c5 : w.cell? ⟨g, q + 5, none⟩ = some (.string tu) := h 5 _ rfl
  have c6 : w.cell? ⟨g, q + 6, none⟩ = some (.string text) := h 6 _ rfl
  clear h
  simp only [stpA]
  unfold execOp
  rw [ho]
  go_simp
def y1 : Stp := ⟨1, 0, 0, 0, sA, Idl.none0, Idl.none0⟩
def y2 : Stp := ⟨8, 0, 0, 0, Idl.none0, Idl.none0, Idl.none0⟩
def y3 : Stp := ⟨1, 0, 0, 0, sB, Idl.none0, Idl.none0⟩
def y4 : Stp := ⟨7, 0, 0, 0, Idl.none0, Idl.none0, Idl.none0⟩
def y5 : Stp := ⟨9, 0, 0, 0, Idl.none0, Idl.none0, Idl.none0⟩
def y6 : Stp := ⟨7, 0, 0, 99, Idl.none0, Idl.none0, Idl.none0⟩
def S1 : Lv := Lv.new.step y1
def S2 : Lv := { S1 with disk := S1.now }
def S3 : Lv := S2.step y3
def S4 : Lv := S3.step y4
def S5 : Lv := S4.step y5
theorem o1 : S1.Ok 1 := Lv.Ok.start.any y1
theorem o2 : S2.Ok 1 := o1.clean
theorem o3 : S3.Ok 2 := o2.any y3
theorem o4 : S4.Ok 3 := o3.any y4
theorem o5 : S5.Ok 4 := o4.any y5
theorem k1 : Lv.new.code y1 = 0 := by kernel_rfl
theorem k2 : S1.code y2 = 0 := by kernel_rfl
theorem k4 : S3.code y4 = 0 := by kernel_rfl
theorem k5 : S4.code y5 = 0 := by kernel_rfl
theorem k6 : S5.code y6 = 1 := by kernel_rfl
theorem k7 : S5.cr = 1 := by kernel_rfl
theorem k8 : S5.lf = 1 := by kernel_rfl
theorem k9 : S5.lc = 0 := by kernel_rfl
theorem k10 : S5.ld = 0 := by kernel_rfl
theorem k11 : Img.snames S5.now 0 = [sA] := by kernel_rfl
theorem synced {S : Lv} {n : Nat} (h : S.Ok n) : S.step y2 = { S with disk := (Img.syn S.now 8 S.disk).2 } ∧ Img.Agree S.now (Img.syn S.now 8 S.disk).2 := ⟨(S.step_eight (x := y2) rfl).1, h.hold.lies.clean h.hold.good.ex⟩
set_option maxHeartbeats 4000000 in
set_option maxRecDepth 100000 in
theorem begun_any (w : World) : Calls Tryz.prog 12 #[] w fun e w' => e = .returned (.bool true) ∧ Below w.heap.size w w' := by
  have s0 : Idl.none0.size ≤ maxLen := small _ (Nat.zero_le _)
  have sa : sA.size ≤ maxLen := small _ (Nat.le_refl _)
  have sb : sB.size ≤ maxLen := small _ (Nat.le_refl _)
  have D1 := hide fun bl bf bc W (r : Lo w bl bf bc Lv.new W) => lStep_any r Lv.Ok.start (by omega) y1 sa s0 s0
  have D2 := hide fun bl bf bc W (r : Lo w bl bf bc S1 W) => lStep_any r o1 (by omega) y2 s0 s0 s0
  have D3 := hide fun bl bf bc W (r : Lo w bl bf bc S2 W) => lStep_any r o2 (by omega) y3 sb s0 s0
  have D4 := hide fun bl bf bc W (r : Lo w bl bf bc S3 W) => lStep_any r o3 (by omega) y4 s0 s0 s0
  have D5 := hide fun bl bf bc W (r : Lo w bl bf bc S4 W) => lStep_any r o4 (by omega) y5 s0 s0 s0
  have D6 := hide fun bl bf bc W (r : Lo w bl bf bc S5 W) => lStep_any r o5 (by omega) y6 s0 s0 s0
  have D7 := hide fun bl bf bc W (r : Lo w bl bf bc S5 W) => r.fo.list o5.hold.good.ex.ok 0
  have D8 := hide fun bl bf bc W (r : Lo w bl bf bc S5 W) => lCrashes_any r
  have D9 := hide fun bl bf bc W (r : Lo w bl bf bc S5 W) => lLost_any r
  have CL := hide fun bl bf bc W (r : Lo w bl bf bc (S1.step y2) W) => show Lo w bl bf bc S2 W by
    rw [(synced o1).1] at r
    exact r.clean (synced o1).2
  rw [k1, show Lv.new.step y1 = S1 from rfl] at D1
  rw [k2] at D2
  rw [show S2.step y3 = S3 from rfl] at D3
  rw [k4, show S3.step y4 = S4 from rfl] at D4
  rw [k5, show S4.step y5 = S5 from rfl] at D5
  rw [k6] at D6
  rw [k11] at D7
  rw [k7] at D8
  rw [k8, k9, k10] at D9
  have QL := eqLost 1 0 0 1 0 0
  unfold lostA at D9 QL
  simp only [stpA, y1, y2, y3, y4, y5, y6, sA, sB, Idl.none0] at D1 D2 D3 D4 D5 D6 D7 CL
  clear s0 sa sb
  generalize S2.code _ = cd3 at D3
  generalize S5.step _ = s6 at D6
  generalize S5 = s5 at D5 D6 D7 D8 D9
  generalize S4 = s4 at D4 D5
  generalize S3 = s3 at D3 D4
  generalize S2 = s2 at D3 CL
  generalize S1.step _ = s1b at D2 CL
  generalize S1 = s1 at D1 D2
  go_enter Tryz.func12, Tryz.ntmps12
  go_wp2_with fail
  refine (lNew_any w (Below.refl _ w)).mono ?_
  rintro e w1 ⟨bl, bf, bc, rfl, _, _, _, h1, _⟩
  have d1 := unhide D1 bl bf bc w1 h1
  clear h1
  go_wp2_with fail
  refine d1.mono ?_
  rintro e w2 ⟨rfl, bf, bc, h2, _⟩
  have d2 := unhide D2 bl bf bc w2 h2
  clear h2 d1
  go_wp2_with fail
  refine d2.mono ?_
  rintro e w3 ⟨rfl, bf, bc, h3, _⟩
  have d3 := unhide D3 bl bf bc w3 (unhide CL bl bf bc w3 h3)
  clear h3 d2
  go_wp2_with fail
  refine d3.mono ?_
  rintro e w4 ⟨rfl, bf, bc, h4, _⟩
  have d4 := unhide D4 bl bf bc w4 h4
  clear h4 d3
  go_wp2_with fail
  refine d4.mono ?_
  rintro e w5 ⟨rfl, bf, bc, h5, _⟩
  have d5 := unhide D5 bl bf bc w5 h5
  clear h5 d4
  go_wp2_with fail
  refine d5.mono ?_
  rintro e w6 ⟨rfl, bf, bc, h6, _⟩
  have H6 := hide h6
  have d7 := unhide D7 bl bf bc w6 h6
  have p6 := h6.ptr
  clear h6 d5
  go_wp2_with fail
  refine d7.mono ?_
  rintro e w8 ⟨v, rfl, ho, h8, b8⟩
  have ho2 : (w8.alloc (.cells #[.string ⟨#[97]⟩] 9)).ownsRow 0 9 1 (.slice (some ⟨w8.heap.size, 0, none⟩) 1 1) ([⟨#[97]⟩] : List ByteArray).length (strs [⟨#[97]⟩]) := ⟨rfl, .inr ⟨w8.heap.size, 1, _, rfl, Nat.zero_le _, heap_alloc_last _ _, Nat.le_refl _, small _ (Nat.le_refl _), rfl, rfl⟩⟩
  have ST := hide (Sft.SameTexts_any (World.ownsRow.alloc ho (.cells #[.string ⟨#[97]⟩] 9)) ho2 (by simp))
  have H8 := hide (((unhide H6).call b8).call ((Below.refl _ _).alloc (Nat.le_refl _) (.cells #[.string ⟨#[97]⟩] 9)))
  clear ho ho2 h8 b8 d7 p6 H6
  go_wp2_with fail
  refine (unhide ST).mono ?_
  rintro e w9 ⟨rfl, b9⟩
  have H9 := hide ((unhide H8).call b9)
  have d8 := unhide D8 bl bf bc w9 (unhide H9)
  have d9 := unhide D9 bl bf bc w9 (unhide H9)
  clear b9 H8 ST
  go_wp2_with fail
  refine d8.mono ?_
  rintro e wq ⟨rfl, e9⟩
  rw [e9]
  clear e9 wq d8
  go_wp2_with fail
  refine d9.mono ?_
  rintro e w10 ⟨rfl, b10⟩
  have d6 := unhide D6 bl bf bc w10 ((unhide H9).call b10)
  clear b10 d9 H9
  go_wp2_with fail
  refine d6.mono ?_
  rintro e w11 ⟨rfl, bf, bc, h11, _⟩
  have B11 := hide h11.bel
  clear h11 d6
  go_wp2_with fail
  go_ret
  exact ⟨rfl, unhide B11⟩
end Lif
end Go.Proofs.YtlbgkpibaahglacGreat
namespace Go.Proofs.YtlbgkpibaahglacGreat
open Go.RowKit
open Idl (Stp chk stpA)
namespace Lif
theorem ld_cache {o : Oper} {ρ : Operand → Value} (x : Operand) (ho : o.op = .load 51 x) {g o0 : Nat} (hx : ρ x = .pointer (some ⟨g, o0, none⟩)) {p : Option Addr} (w : World) (h : w.cell? ⟨g, o0, none⟩ = some (.pointer p)) : (execOp ρ o).run Tryz.prog w = .ok (.value (.pointer p)) w := by
  unfold execOp
  rw [ho]
  go_simp
end Lif
end Go.Proofs.YtlbgkpibaahglacGreat
namespace Go.Proofs.YtlbgkpibaahglacGreat
open Go.RowKit
open Idl (Stp chk stpA)
namespace Lif
def ints (l : List Int) : List Value := l.map (.int .i64)
theorem int_info : ∃ i, Tryz.prog.info? 3 = some i ∧ i.zero = some (.int .i64 0) ∧ i.size = 1 ∧ i.bytes = 8 := by
  have h : (Tryz.prog.info? 3).map (fun i => (i.zero, i.size, i.bytes)) = some (some (.int .i64 0), 1, 8) := by kernel_rfl
  cases hq : Tryz.prog.info? 3 with
  | none => rw [hq] at h; cases h
  | some i =>
    rw [hq] at h
    simp only [Option.map_some, Option.some.injEq, Prod.mk.injEq] at h
    exact ⟨i, rfl, h.1, h.2.1, h.2.2⟩
theorem one_int (n : Int) : ∀ u ∈ [Value.int .i64 n], u.oneCell' = true := fun u hu => by
  rcases List.mem_cons.1 hu with rfl | hu
  · rfl
  · cases hu
theorem nums_cell {w : World} {base : Nat} {v : Value} {l : List Int} (h : w.ownsRow base 3 1 v l.length (ints l)) :
    (v = .slice none 0 0 ∧ l = []) ∨ ∃ g c, v = .slice (some ⟨g, 0, none⟩) l.length c ∧ base ≤ g ∧ g < w.heap.size ∧ ∀ i (hi : i < l.length), w.cell? ⟨g, i, none⟩ = some (.int .i64 l[i]) := by
  rcases h.2 with ⟨h1, h2⟩ | ⟨g, cap, cur, h1, hb, h3, h4, h5, h6, h7⟩
  · exact .inl ⟨h1, List.eq_nil_of_length_eq_zero h2⟩
  · refine .inr ⟨g, cap, h1, hb, (Array.getElem?_eq_some_iff.1 h3).1, fun i hi => ?_⟩
    rw [cell_of_row w g _ _ _ _ h3]
    have : (ints l)[i]? = some (.int .i64 l[i]) := by simp [ints, hi]
    rw [← h7, List.getElem?_take] at this
    split at this
    · simpa using this
    · cases this
end Lif
end Go.Proofs.YtlbgkpibaahglacGreat
namespace Go.Proofs.YtlbgkpibaahglacGreat
open Go.RowKit
open Idl (Stp chk stpA)
namespace Img
variable {now disk : Img} {last : Int}
/-- the Stamp of the entry that a name finds; 0: none -/
def stampAt (m : Img) (d : Int) (s : ByteArray) : Int := if 0 ≤ m.findAt d s.toList then m.est d.toNat (m.findAt d s.toList).toNat else 0
theorem there_put (hG : Good now last) {x : Stp} (h : scode now disk x = 0) (h5 : x.kind = 5) : ∃ k n, There now x.dir x.name k n ∧ stampAt now x.dir x.name = now.stamp n ∧ 1 ≤ now.stamp n ∧ now.stamp n ≤ last := by
  have t := take h
  obtain ⟨k, n, hT⟩ := there hG.ex.ok (t.old (by omega))
  refine ⟨k, n, hT, ?_, (inode_parts_ok hG.ex.ok hT.n8 hT.live).1, hG.last n hT.n8 hT.live⟩
  unfold stampAt
  rw [hT.at_, if_pos (by omega), Int.toNat_natCast, hT.stamp]
theorem there_made (hG : Good now last) {x : Stp} (h : scode now disk x = 0) (h1 : x.kind = 1) : ∃ k : Nat, 0 ≤ x.dir ∧ x.dir < 3 ∧ k < 4 ∧ (sstep now disk last x).findAt x.dir x.name.toList = (k : Int) ∧ (sstep now disk last x).est x.dir.toNat k = last + 1 := by
  have t := take h
  obtain ⟨n, k, hc⟩ := comes hG h h1
  have e : sstep now disk last x = added (started now disk last) disk x.dir x.name n := by
    rcases sstep_cases (last := last) h with ⟨k, e⟩ | ⟨k, e⟩ | ⟨k, e⟩ | ⟨k, e⟩ | ⟨k, e⟩ | ⟨k, e⟩
    · rw [e, hc.ino, Int.toNat_natCast]
    all_goals omega
  have ea := added_at x.dir x.name n hc.slot'
  rw [e]
  have e1 : (added (started now disk last) disk x.dir x.name n).name x.dir.toNat k = x.name := congrArg Ent.name ea
  have e3 : (added (started now disk last) disk x.dir x.name n).est x.dir.toNat k = (started now disk last).stamp n := congrArg Ent.est ea
  refine ⟨k, t.dir.1, t.dir.2, hc.slot.s4, find_at hc.ex.ok t.dir hc.slot.s4 (nm_ne t.name) e1, ?_⟩
  rw [e3]
  unfold started
  rw [putIno_stamp, hc.ino, Int.toNat_natCast, if_pos rfl]
/-- the list behind a step -/
def logged (l : List (Int × ByteArray)) (c st last : Int) (x : Stp) : List (Int × ByteArray) :=
  if c = 0 ∧ x.kind = 5 then l ++ [(st, x.text)] else if c = 0 ∧ x.kind = 1 then forget l (last + 1) else l
def forgetTo (l : List (Int × ByteArray)) (s : Int) : Nat → List (Int × ByteArray)
  | 0 => l
  | k + 1 => (forgetTo l s k).modify k fun e => if e.1 = s then (0, e.2) else e
theorem forgetTo_len (l : List (Int × ByteArray)) (s : Int) : ∀ k, (forgetTo l s k).length = l.length
  | 0 => rfl
  | k + 1 => by unfold forgetTo; rw [List.length_modify, forgetTo_len l s k]
theorem forgetTo_at (l : List (Int × ByteArray)) (s : Int) : ∀ k j, (forgetTo l s k)[j]? = if j < k then (l[j]?).map (fun e => if e.1 = s then (0, e.2) else e) else l[j]?
  | 0, j => by rw [if_neg (by omega)]; rfl
  | k + 1, j => by
    unfold forgetTo
    rw [List.getElem?_modify, forgetTo_at l s k j]
    by_cases c : k = j
    · subst c
      rw [if_neg (by omega), if_pos (by omega)]
      cases l[k]? <;> simp
    · by_cases d : j < k
      · rw [if_pos d, if_pos (by omega)]
        cases l[j]? <;> simp [c]
      · rw [if_neg d, if_neg (by omega)]
        cases l[j]? <;> simp [c]
theorem forgetTo_all (l : List (Int × ByteArray)) (s : Int) : forgetTo l s l.length = forget l s := by
  refine List.ext_getElem? fun j => ?_
  rw [forgetTo_at]
  unfold forget
  rw [List.getElem?_map]
  by_cases c : j < l.length
  · rw [if_pos c]
  · rw [if_neg c, List.getElem?_eq_none (by omega)]; rfl
theorem forgetTo_snd (l : List (Int × ByteArray)) (s : Int) (k : Nat) : (forgetTo l s k).map (·.2) = l.map (·.2) := by
  refine List.ext_getElem? fun j => ?_
  rw [List.getElem?_map, List.getElem?_map, forgetTo_at]
  by_cases c : j < k
  · rw [if_pos c, Option.map_map]
    congr 1
    funext e
    show (if e.1 = s then ((0 : Int), e.2) else e).2 = e.2
    split <;> rfl
  · rw [if_neg c]
theorem forgetTo_next (l : List (Int × ByteArray)) (s : Int) (k : Nat) (hk : k < l.length) : (forgetTo l s k)[k]? = some l[k] := by
  rw [forgetTo_at, if_neg (by omega), List.getElem?_eq_getElem hk]
theorem forgetTo_keep (l : List (Int × ByteArray)) (s : Int) (k : Nat) (hk : k < l.length) (h : l[k].1 ≠ s) : forgetTo l s (k + 1) = forgetTo l s k := by
  refine List.ext_getElem? fun j => ?_
  rw [forgetTo_at, forgetTo_at]
  by_cases c : j = k
  · subst c
    rw [if_pos (by omega), if_neg (by omega), List.getElem?_eq_getElem hk]
    simp [h]
  · by_cases d : j < k
    · rw [if_pos d, if_pos (by omega)]
    · rw [if_neg d, if_neg (by omega)]
theorem forgetTo_set (l : List (Int × ByteArray)) (s : Int) (k : Nat) (hk : k < l.length) (h : l[k].1 = s) : (forgetTo l s (k + 1)).map (·.1) = ((forgetTo l s k).map (·.1)).set k 0 := by
  refine List.ext_getElem? fun j => ?_
  rw [List.getElem?_map, List.getElem?_set, List.getElem?_map, forgetTo_at, forgetTo_at, List.length_map, forgetTo_len]
  by_cases c : k = j
  · subst c
    rw [if_pos (by omega), if_pos rfl, if_pos hk, List.getElem?_eq_getElem hk]
    simp [h]
  · rw [if_neg c]
    by_cases d : j < k
    · rw [if_pos d, if_pos (by omega)]
    · rw [if_neg d, if_neg (by omega)]
end Img
/-- each data of a life is of none, or was put -/
structure OwnS (l : List (Int × ByteArray)) (S : Lv) : Prop where
  now : Img.Own l S.now S.last
  disk : Img.Own l S.disk S.last
theorem OwnS.start : OwnS [] Lv.new := by
  have h0 : ∀ x, x < 9 → blankI.of x = 0 := by decide +kernel
  have h : Img.Own [] blankI 0 := fun x hx => .inl (h0 x hx)
  exact ⟨h, h⟩
theorem OwnS.step {l : List (Int × ByteArray)} {S : Lv} {n : Nat} (hO : S.Ok n) (h : OwnS l S) (x : Stp) : OwnS (Img.logged l (S.code x) (Img.stampAt S.now x.dir x.name) S.last x) (S.step x) := by
  by_cases h7 : x.kind = 7
  · rw [(S.step_seven h7).1]
    unfold Img.logged
    rw [if_neg (fun z => by have := z.2; omega), if_neg (fun z => by have := z.2; omega)]
    exact ⟨h.now, Img.Own.write hO.hold h.now h.disk _⟩
  by_cases h8 : x.kind = 8
  · rw [(S.step_eight h8).1]
    unfold Img.logged
    rw [if_neg (fun z => by have := z.2; omega), if_neg (fun z => by have := z.2; omega)]
    exact ⟨h.now, Img.Own.syn h.now 8 hO.hold h.disk⟩
  by_cases h9 : x.kind = 9
  · rw [(S.step_nine h9).1]
    unfold Img.logged
    rw [if_neg (fun z => by have := z.2; omega), if_neg (fun z => by have := z.2; omega)]
    exact ⟨Img.Own.crash hO.hold h.disk, Img.Own.crash hO.hold h.disk⟩
  rw [(S.step_file ⟨h7, h8, h9⟩).1, (S.step_file ⟨h7, h8, h9⟩).2]
  unfold Img.logged
  by_cases h0 : Img.scode S.now S.disk x = 0
  · rcases Img.sstep_cases (last := S.last) h0 with ⟨k, e⟩ | ⟨k, e⟩ | ⟨k, e⟩ | ⟨k, e⟩ | ⟨k, e⟩ | ⟨k, e⟩
    · have el : Img.slast S.now S.disk S.last x = S.last + 1 := if_pos ⟨h0, k⟩
      rw [if_neg (fun z => by have := z.2; omega), if_pos ⟨h0, k⟩, el, e]
      exact ⟨Img.own_same ((Img.Own.forget h.now (by omega)).mono (show S.last ≤ S.last + 1 by omega)) rfl rfl, (Img.Own.forget h.disk (by omega)).mono (show S.last ≤ S.last + 1 by omega)⟩
    all_goals have el : Img.slast S.now S.disk S.last x = S.last := if_neg (fun z => by have := z.2; omega)
    · rw [if_neg (fun z => by have := z.2; omega), if_neg (fun z => by have := z.2; omega), el, e]
      exact ⟨Img.own_same h.now rfl rfl, h.disk⟩
    · rw [if_neg (fun z => by have := z.2; omega), if_neg (fun z => by have := z.2; omega), el, e]
      exact ⟨Img.own_same h.now (Img.dropped_data _ _).1 (Img.dropped_data _ _).2, h.disk⟩
    · rw [if_neg (fun z => by have := z.2; omega), if_neg (fun z => by have := z.2; omega), el, e]
      exact ⟨Img.own_same h.now (Img.dropped_data _ _).1 (Img.dropped_data _ _).2, h.disk⟩
    · rw [if_pos ⟨h0, k⟩, el, e]
      obtain ⟨k', n', hT, hs, h1, h2⟩ := Img.there_put hO.hold.good h0 k
      rw [hs, hT.of, Int.toNat_natCast]
      exact ⟨Img.own_put h.now hO.hold.good.ex.ok hT.n8 hT.live h2 _, h.disk.more _⟩
    · rw [if_neg (fun z => by have := z.2; omega), if_neg (fun z => by have := z.2; omega), el, e]
      exact ⟨Img.own_same h.now rfl rfl, h.disk⟩
  · have e : Img.sstep S.now S.disk S.last x = S.now := if_pos h0
    have el : Img.slast S.now S.disk S.last x = S.last := if_neg (fun z => h0 z.1)
    rw [if_neg (fun z => h0 z.1), if_neg (fun z => h0 z.1), el, e]
    exact ⟨h.now, h.disk⟩
theorem Img.logged_len {l : List (Int × ByteArray)} {n : Nat} (hl : l.length ≤ n) (c st last : Int) (x : Stp) : (Img.logged l c st last x).length ≤ n + 1 := by
  unfold Img.logged
  split
  · simp; omega
  · split
    · unfold Img.forget; simp; omega
    · omega
/-- a part of a file on the disk was put -/
theorem OwnS.part {l : List (Int × ByteArray)} {S : Lv} {q : Nat} (hO : S.Ok q) (h : OwnS l S) {n p : Nat} (hn : n < 8) (hp : p < 2) (hl : S.disk.live n = true) (h0 : ¬ S.disk.part n p < 0) :
    ∃ y : Nat, S.disk.part n p = (y : Int) ∧ y < 9 ∧ S.disk.of y = S.disk.stamp n ∧ ∃ j, ∃ hj : j < l.length, l[j] = (S.disk.stamp n, S.disk.text y) := by
  rcases Img.checkPart_iff.1 ((Img.inode_parts_ok hO.hold.ok hn hl).2.2 p hp) with z | z
  · omega
  · have hb : 0 ≤ S.disk.part n p ∧ S.disk.part n p < 9 := by simpa [Img.isD] using z.1
    refine ⟨(S.disk.part n p).toNat, by omega, by omega, z.2, ?_⟩
    have h1 := (Img.inode_parts_ok hO.hold.ok hn hl).1
    rcases h.disk (S.disk.part n p).toNat (by omega) with y | ⟨_, _, y⟩
    · rw [z.2] at y; omega
    · rw [z.2] at y
      obtain ⟨j, hj, e⟩ := List.getElem_of_mem y
      exact ⟨j, hj, e⟩
namespace Lif
/-- a row of one's own, a cell of it set -/
theorem own_set {W : World} {base : Nat} {e : TypeId} {v : Value} {n : Nat} {xs : List Value} (h : W.ownsRow base e 1 v n xs) {g c : Nat} (hv : v = .slice (some ⟨g, 0, none⟩) n c) {k : Nat} (hk : k < n) (u : Value) : (W.setCell ⟨g, k, none⟩ u).ownsRow base e 1 v n (xs.set k u) := by
  refine ⟨by rw [List.length_set]; exact h.1, ?_⟩
  rcases h.2 with ⟨h1, h2⟩ | ⟨g', cap, cur, h1, hb, h3, h4, h5, h6, h7⟩
  · omega
  · rw [hv] at h1
    injection h1 with e1 e2 e3
    injection e1 with e1
    injection e1 with e1
    subst e1 e3
    refine .inr ⟨g, c, cur.setIfInBounds k u, hv, hb, heap_setCell_same W g k cur e u h3, h4, h5, by simpa using h6, ?_⟩
    rw [Array.toList_setIfInBounds, List.take_set, h7]
/-- the two rows of what was put, apart from a life and from each other -/
structure Lg (w : World) (bl bf bc : Nat) (v1 v2 : Value) (a : List Int) (b : List ByteArray) (W : World) : Prop where
  own1 : W.ownsRow w.heap.size 3 1 v1 a.length (ints a)
  own2 : W.ownsRow w.heap.size 9 1 v2 b.length (Idl.strs b)
  off1 : ∀ g, v1.ownBlock = some g → g ≠ bl ∧ g ≠ bf ∧ g ≠ bc
  off2 : ∀ g, v2.ownBlock = some g → g ≠ bl ∧ g ≠ bf ∧ g ≠ bc
  ne : ∀ g, v1.ownBlock = some g → v2.ownBlock ≠ some g
section
variable {w W W' : World} {bl bf bc bf' bc' : Nat} {v1 v2 : Value} {a : List Int} {b : List ByteArray} {S : Lv}
theorem Lg.start (w : World) (bl bf bc : Nat) (W : World) : Lg w bl bf bc (.slice none 0 0) (.slice none 0 0) [] [] W :=
  ⟨World.ownsRow_nil _ _ _ _, World.ownsRow_nil _ _ _ _, (fun g hg => by cases hg), (fun g hg => by cases hg), (fun g hg => by cases hg)⟩
theorem Lg.below (h : Lg w bl bf bc v1 v2 a b W) (hb : Below W.heap.size W W') : Lg w bl bf bc v1 v2 a b W' :=
  ⟨Idl.ownsRow_of_block h.own1 fun g hg => hb.block g (h.own1.lt g hg).2, Idl.ownsRow_of_block h.own2 fun g hg => hb.block g (h.own2.lt g hg).2, h.off1, h.off2, h.ne⟩
theorem Lg.step (h : Lg w bl bf bc v1 v2 a b W) (hc : Lc bl bf bc bf' bc' W W') : Lg w bl bf' bc' v1 v2 a b W' := by
  have key : ∀ {v : Value}, (∀ g, v.ownBlock = some g → g < W.heap.size) → (∀ g, v.ownBlock = some g → g ≠ bl ∧ g ≠ bf ∧ g ≠ bc) → ∀ g, v.ownBlock = some g → g ≠ bl ∧ g ≠ bf' ∧ g ≠ bc' := fun hl ho g hg => by
    have h1 := hl g hg
    have h2 := ho g hg
    rcases hc.new with z | z
    · rw [z.1, z.2]; exact h2
    · exact ⟨h2.1, by omega, by omega⟩
  exact ⟨Idl.ownsRow_of_block h.own1 fun g hg => hc.old g (h.own1.lt g hg).2 (h.off1 g hg).1 (h.off1 g hg).2.1 (h.off1 g hg).2.2, Idl.ownsRow_of_block h.own2 fun g hg => hc.old g (h.own2.lt g hg).2 (h.off2 g hg).1 (h.off2 g hg).2.1 (h.off2 g hg).2.2,
    key (fun g hg => (h.own1.lt g hg).2) h.off1, key (fun g hg => (h.own2.lt g hg).2) h.off2, h.ne⟩
/-- a life is as it was where only a row of the law's own was changed -/
theorem Lo.grown {v : Value} (h : Lo w bl bf bc S W) (hg : W.grownBy W' v.ownBlock) (hb : ∀ g, v.ownBlock = some g → w.heap.size ≤ g) (ho : ∀ g, v.ownBlock = some g → g ≠ bl ∧ g ≠ bf ∧ g ≠ bc) : Lo w bl bf bc S W' := by
  obtain ⟨cs, ds, f⟩ := h.fo.it
  have k1 := hg.block bl h.lt (fun e => (ho bl e.symm).1 rfl)
  have k2 := hg.block bf f.flt (fun e => (ho bf e.symm).2.1 rfl)
  have k3 := hg.block bc f.clt (fun e => (ho bc e.symm).2.2 rfl)
  refine ⟨⟨⟨cs, ds, f.keep k2 k3⟩, ?_, h.fo.f0, h.fo.c0⟩, by rw [k1]; exact h.root, h.l0, h.nf, h.nc⟩
  have hb0 := h.fo.bel
  have hs := hb0.size
  exact hb0.trans (Idl.Chg.below (own := fun i => v.ownBlock = some i) ⟨hg.os, hg.tape, hg.output, hg.size, fun k hk hn => hg.block k hk (fun e => hn e.symm)⟩ hs (fun i hi => hb i hi))
/-- the blocks that stay -/
theorem grown_row {v v' : Value} {g : Nat} {o : Obj} (hg : W.grownBy W' v.ownBlock) (ha : v'.ownBlock = v.ownBlock ∨ v'.ownBlock = some W.heap.size) (hr : W.heap[g]? = some o) (hn : v.ownBlock ≠ some g) : W'.heap[g]? = some o ∧ v'.ownBlock ≠ some g := by
  have hl := (Array.getElem?_eq_some_iff.1 hr).1
  refine ⟨by rw [hg.block g hl (fun e => hn e.symm)]; exact hr, ?_⟩
  rcases ha with e | e <;> rw [e]
  · exact hn
  · intro z
    injection z with z
    omega
theorem Lg.app1 {v' : Value} {s : Int} (hL : Lo w bl bf bc S W) (h : Lg w bl bf bc v1 v2 a b W) (ho : W'.ownsRow w.heap.size 3 1 v' (a.length + 1) (ints a ++ [.int .i64 s])) (hg : W.grownBy W' v1.ownBlock) (ha : v'.ownBlock = v1.ownBlock ∨ v'.ownBlock = some W.heap.size) : Lg w bl bf bc v' v2 (a ++ [s]) b W' ∧ Lo w bl bf bc S W' := by
  have h1 := hL.lt
  have h2 := hL.fo.cells.2.1
  have h3 := hL.fo.cells.2.2.1
  refine ⟨⟨by simpa [ints] using ho, Idl.ownsRow_of_block h.own2 fun g hg2 => hg.block g (h.own2.lt g hg2).2 (fun e => h.ne g e.symm hg2), fun g hg2 => ?_, h.off2, fun g hg2 hg3 => ?_⟩, Lif.Lo.grown hL hg (fun g hg2 => (h.own1.lt g hg2).1) h.off1⟩
  · rcases ha with e | e <;> rw [e] at hg2
    · exact h.off1 g hg2
    · injection hg2 with hg2
      omega
  · rcases ha with e | e <;> rw [e] at hg2
    · exact h.ne g hg2 hg3
    · injection hg2 with hg2
      have := (h.own2.lt g hg3).2
      omega
theorem Lg.app2 {v' : Value} {s : ByteArray} (hL : Lo w bl bf bc S W) (h : Lg w bl bf bc v1 v2 a b W) (ho : W'.ownsRow w.heap.size 9 1 v' (b.length + 1) (Idl.strs b ++ [.string s])) (hg : W.grownBy W' v2.ownBlock) (ha : v'.ownBlock = v2.ownBlock ∨ v'.ownBlock = some W.heap.size) : Lg w bl bf bc v1 v' a (b ++ [s]) W' ∧ Lo w bl bf bc S W' := by
  have h1 := hL.lt
  have h2 := hL.fo.cells.2.1
  have h3 := hL.fo.cells.2.2.1
  refine ⟨⟨Idl.ownsRow_of_block h.own1 fun g hg2 => hg.block g (h.own1.lt g hg2).2 (fun e => h.ne g hg2 e.symm), by simpa [Idl.strs] using ho, h.off1, fun g hg2 => ?_, fun g hg2 hg3 => ?_⟩, Lif.Lo.grown hL hg (fun g hg2 => (h.own2.lt g hg2).1) h.off2⟩
  · rcases ha with e | e <;> rw [e] at hg2
    · exact h.off2 g hg2
    · injection hg2 with hg2
      omega
  · rcases ha with e | e <;> rw [e] at hg3
    · exact h.ne g hg2 hg3
    · injection hg3 with hg3
      have := (h.own1.lt g hg2).2
      omega
/-- a number of the first row set -/
theorem Lg.set1 {g c k : Nat} {s : Int} (hL : Lo w bl bf bc S W) (h : Lg w bl bf bc (.slice (some ⟨g, 0, none⟩) a.length c) v2 a b W) (hk : k < a.length) : Lg w bl bf bc (.slice (some ⟨g, 0, none⟩) a.length c) v2 (a.set k s) b (W.setCell ⟨g, k, none⟩ (.int .i64 s)) ∧ Lo w bl bf bc S (W.setCell ⟨g, k, none⟩ (.int .i64 s)) ∧ W.grownBy (W.setCell ⟨g, k, none⟩ (.int .i64 s)) (some g) := by
  have bb := (Below.refl 0 W).setCell (p := ⟨g, k, none⟩) (Nat.zero_le _) (.int .i64 s)
  have hg : W.grownBy (W.setCell ⟨g, k, none⟩ (.int .i64 s)) (some g) := ⟨bb.os, bb.tape, bb.output, bb.size, fun j _ hj => heap_setCell_other W ⟨g, k, none⟩ j _ (fun e => hj (by rw [e]))⟩
  have hs : (ints a).set k (.int .i64 s) = ints (a.set k s) := by simp [ints, List.map_set]
  refine ⟨⟨?_, Idl.ownsRow_of_block h.own2 fun j hj => hg.block j (h.own2.lt j hj).2 (fun e => h.ne j (by rw [e]; rfl) hj), h.off1, h.off2, h.ne⟩, Lif.Lo.grown hL (v := .slice (some ⟨g, 0, none⟩) a.length c) hg (fun j hj => (h.own1.lt j hj).1) h.off1, hg⟩
  have := own_set h.own1 rfl hk (.int .i64 s)
  rw [hs] at this
  rw [List.length_set]; exact this
end
end Lif
end Go.Proofs.YtlbgkpibaahglacGreat
namespace Go.Proofs.YtlbgkpibaahglacGreat
open Go.RowKit
open Idl (Stp chk stpA)
end Go.Proofs.YtlbgkpibaahglacGreat
namespace Go.Proofs.YtlbgkpibaahglacGreat
open Go.RowKit
open Idl (Stp chk stpA)
namespace Lif
end Lif
end Go.Proofs.YtlbgkpibaahglacGreat
