/-
  The walks of package desk: dirty, ask. (Written by genqg.py.)
-/
import Derived.Test.YtfpfpnhpbnnmfadGreatDoorXbq
import Derived.Test.YtfpfpnhpbnnmfadGreatDoorXbr
import Derived.Test.YtfpfpnhpbnnmfadGreatDoorXag
set_option linter.unusedVariables false
namespace Go.Proofs.YtfpfpnhpbnnmfadGreatDoor
open Go.RowKit
open Idl (Stp chk stpA strs)
/-- what a region of ask reads -/
structure Sq (bd bl bf g : Nat) (c : Array Value) (t : TypeId) (V : World) : Prop where
  p0 : V.cell? ⟨bd, 2, none⟩ = some (.pointer (some ⟨bl, 0, none⟩))
  p1 : V.cell? ⟨bl, 0, none⟩ = some (.pointer (some ⟨bf, 0, none⟩))
  row : V.heap[g]? = some (.cells c t)
section
variable {bd bl bf g : Nat} {x : Stp} {t : TypeId} {V : World}
theorem sq_dir (h : Sq bd bl bf g (stpA x) t V) : V.cell? ⟨g, 1, none⟩ = some (.int .i64 x.dir) := by rw [cell_of_row _ _ _ _ _ _ h.row]; rfl
theorem sq_todir (h : Sq bd bl bf g (stpA x) t V) : V.cell? ⟨g, 2, none⟩ = some (.int .i64 x.toDir) := by rw [cell_of_row _ _ _ _ _ _ h.row]; rfl
theorem sq_name (h : Sq bd bl bf g (stpA x) t V) : V.cell? ⟨g, 4, none⟩ = some (.string x.name) := by rw [cell_of_row _ _ _ _ _ _ h.row]; rfl
theorem sq_to (h : Sq bd bl bf g (stpA x) t V) : V.cell? ⟨g, 5, none⟩ = some (.string x.to) := by rw [cell_of_row _ _ _ _ _ _ h.row]; rfl
theorem sq_l0 {a b c : Int} (h : Sq bd bl bf g #[.int .i64 a, .int .i64 b, .int .i64 c] t V) : V.cell? ⟨g, 0, none⟩ = some (.int .i64 a) := by rw [cell_of_row _ _ _ _ _ _ h.row]; rfl
theorem sq_l1 {a b c : Int} (h : Sq bd bl bf g #[.int .i64 a, .int .i64 b, .int .i64 c] t V) : V.cell? ⟨g, 1, none⟩ = some (.int .i64 b) := by rw [cell_of_row _ _ _ _ _ _ h.row]; rfl
theorem sq_l2 {a b c : Int} (h : Sq bd bl bf g #[.int .i64 a, .int .i64 b, .int .i64 c] t V) : V.cell? ⟨g, 2, none⟩ = some (.int .i64 c) := by rw [cell_of_row _ _ _ _ _ _ h.row]; rfl
end
section
variable {w W W' : World} {B bd bl bf bc : Nat} {S : Lv} {l : List UInt8}
theorem sq_of (h : Dk w B bd bl bf bc S l W) {g : Nat} {c : Array Value} {t : TypeId} (hr : W.heap[g]? = some (.cells c t)) : Sq bd bl bf g c t W := ⟨h.lif, h.lo.ptr, hr⟩
theorem Sq.df {k : List UInt8} {g : Nat} {c : Array Value} {t : TypeId} (s : Sq bd bl bf g c t W) (h : Dk w B bd bl bf bc S k W') (f : Df B bd W W') (hd : ∃ cs, W.heap[bd]? = some (.cells cs 46)) (ht : t ≠ 5) (ht2 : t ≠ 46) : Sq bd bl bf g c t W' := by
  obtain ⟨cs, hd⟩ := hd
  exact sq_of h (by rw [f.old _ (Array.getElem?_eq_some_iff.1 s.row).1 (row_ne s.row hd ht2) (.inr (nb_of s.row ht))]; exact s.row)
theorem printed_le {m : Img} (f : Fine m) : (Txt.printed m).length ≤ 15000000 := by
  have hs : ∀ ls : List (List (List UInt8)), (∀ x ∈ ls, (Txt.line x).length ≤ 400000) → (Txt.stream ls).length ≤ ls.length * 400000 := by
    intro ls
    induction ls with
    | nil => intro _; exact Nat.le_refl _
    | cons x r ih =>
      intro h
      have h1 := h x (List.mem_cons_self ..)
      have h2 := ih (fun z hz => h z (List.mem_cons_of_mem _ hz))
      show (Txt.line x ++ Txt.stream r).length ≤ _
      rw [List.length_append, List.length_cons, Nat.succ_mul]
      omega
  have hl : ∀ x ∈ Txt.lines m, (Txt.line x).length ≤ 400000 := fun x hx => by
    rcases Txt.mem_lines.1 hx with ⟨n, hn, _, rfl⟩ | ⟨d, s, hd, hs, _, rfl⟩ | ⟨y, hy, _, rfl⟩
    · exact ino_le f hn
    · exact ent_le f hd hs
    · exact dat_le f hy
  have one : ∀ (c : Bool) (v : List (List UInt8)), (if c = true then [v] else []).length ≤ 1 := fun c v => by split <;> simp
  have up : ∀ (g : Nat → List (List (List UInt8))) (K n : Nat), (∀ i, (g i).length ≤ K) → (Txt.upto g n).length ≤ n * K := fun g K n h => by
    induction n with
    | zero => exact Nat.zero_le _
    | succ n ih =>
      show (Txt.upto g n ++ g n).length ≤ _
      rw [List.length_append, Nat.succ_mul]
      have := h n
      omega
  have n1 := up (Txt.inoL m) 1 8 (fun i => by unfold Txt.inoL; split <;> simp)
  have n2 := up (Txt.dirL m) 4 3 (fun d => up (Txt.entL m d) 1 4 (fun i => by unfold Txt.entL; split <;> simp))
  have n3 := up (Txt.datL m) 1 9 (fun i => by unfold Txt.datL; split <;> simp)
  have hn : (Txt.lines m).length ≤ 29 := by
    unfold Txt.lines Txt.linesX Txt.linesD Txt.linesI
    rw [List.length_append, List.length_append]
    omega
  have := hs _ hl
  unfold Txt.printed
  omega
theorem int_info9 : (Tryz.prog.info? 3).map (fun i => (i.zero, i.size, i.bytes)) = some (some (.int .i64 0), 1, 8) := by kernel_rfl
theorem dirty_len (S : Lv) : ∀ k, (Dsk.dirtyTo S k).length ≤ k ∧ ∀ n ∈ Dsk.dirtyTo S k, 0 ≤ n ∧ n < (k : Int)
  | 0 => ⟨Nat.le_refl _, fun n h => by cases h⟩
  | k + 1 => by
    have ih := dirty_len S k
    unfold Dsk.dirtyTo
    split
    · refine ⟨by rw [List.length_append, List.length_singleton]; omega, fun n h => ?_⟩
      rcases List.mem_append.1 h with z | z
      · have := ih.2 n z; omega
      · rw [List.mem_singleton.1 z]; omega
    · rw [List.append_nil]
      exact ⟨by omega, fun n h => by have := ih.2 n h; omega⟩
theorem dirty_yes {S : Lv} {k : Nat} (h : Img.dirty S.now S.disk (k : Int) = true) : Dsk.dirtyTo S (k + 1) = Dsk.dirtyTo S k ++ [(k : Int)] := by
  show Dsk.dirtyTo S k ++ (if _ then _ else _) = _
  rw [if_pos h]
theorem dirty_no {S : Lv} {k : Nat} (h : Img.dirty S.now S.disk (k : Int) = false) : Dsk.dirtyTo S (k + 1) = Dsk.dirtyTo S k := by
  show Dsk.dirtyTo S k ++ (if _ then _ else _) = _
  rw [if_neg (by rw [h]; simp), List.append_nil]
set_option maxHeartbeats 1000000 in
set_option maxRecDepth 100000 in
theorem dDirty_any (h : Dk w B bd bl bf bc S l W) (tb : Tabs w) :
    Calls Tryz.prog 61 #[.pointer (some ⟨bd, 0, none⟩)] W fun e w' => ∃ v, e = .returned v ∧ w'.ownsRow W.heap.size 9 1 v (Dsk.dirtyTo S 14).length (strs (decs (Dsk.dirtyTo S 14))) ∧ Below W.heap.size W w' := by
  obtain ⟨i0, hi, hz0, hz1, hz2⟩ := info_parts int_info9
  have H := hide h
  have TB := hide tb
  have DL := hide (dirty_len S)
  clear h tb
  go_enter Tryz.func61, Tryz.ntmps61
  go_wp2_with fail
  go_loopw [3, 5] (fun s3 s5 wr => ∃ k : Nat, k ≤ 14 ∧ s5 = .int .i64 k ∧ Hid (wr.ownsRow W.heap.size 3 1 s3 (Dsk.dirtyTo S k).length (ints (Dsk.dirtyTo S k))) ∧ Hid (Below W.heap.size W wr)) (fun _ s5 _ => 14 - (intOf s5).toNat)
  case atStart => exact ⟨0, Nat.zero_le _, rfl, hide (World.ownsRow_nil _ _ _ _), hide (Below.refl _ _)⟩
  case round =>
    obtain ⟨k, hk, rfl, OW, BW⟩ := hrel
    by_cases hlt : k < 14
    case pos =>
      have t14 : decide ((k : Int) < 14) = true := by simp; omega
      have H1 := hide ((unhide H).call (unhide BW))
      have c1 := (unhide H1).lif
      have c2 := (unhide H1).lo.ptr
      have c3 := (unhide H1).lo.ptr2
      have D := hide ((unhide H1).lo.fo.drt9 (k : Int))
      cases hd : Img.dirty S.now S.disk (k : Int)
      case false =>
        rw [hd] at D
        have E := hide (dirty_no hd)
        clear hd
        go_wp2_with fail
        refine (unhide D).mono ?_
        rintro e w2 ⟨rfl, b2⟩
        have O2 := hide (Idl.ownsRow_of_block (unhide OW) (fun g hg => b2.block g ((unhide OW).lt g hg).2))
        have B2 := hide ((unhide BW).trans (b2.mono (unhide BW).size))
        clear b2 D c1 c2 c3
        go_wp2_with fail
        go_roundw
        case rel => exact ⟨k + 1, by omega, by go_num, by rw [unhide E]; exact O2, B2⟩
        case measure => simp [intOf]; omega
      case true =>
        rw [hd] at D
        have E := hide (dirty_yes hd)
        clear hd
        have KL := (unhide DL k).1
        go_wp2_with fail
        refine (unhide D).mono ?_
        rintro e w2 ⟨rfl, b2⟩
        have O2 := hide (Idl.ownsRow_of_block (unhide OW) (fun g hg => b2.block g ((unhide OW).lt g hg).2))
        have B2 := hide ((unhide BW).trans (b2.mono (unhide BW).size))
        clear b2 D c1 c2 c3
        go_wp2_with (at_builtin; refine wpList_append_own _ rfl _ _ 157 rfl W.heap.size 3 i0 (.int .i64 0) 1 8 Tryz.underlying157 hi hz0 hz1 hz2 rfl (by decide) _ _ _ rfl ((unhide O2).alloc _) ⟨w2.heap.size, 0, none⟩ 1 1 [.int .i64 (k : Int)] rfl rfl ?c1 ?c2 ?c3 ?c4 ?c5 ?_)
        case c1 =>
          intro j u hj
          match j, hj with
          | 0, hj => simp at hj; subst hj; simp [Addr.add]
        case c2 => intro u hu; simp at hu; subst hu; rfl
        case c3 => unfold maxLen; omega
        case c4 => omega
        case c5 => have := (unhide B2).size; simp; omega
        intro v' w3 hown' hgrow _
        have O3 := hide (show w3.ownsRow W.heap.size 3 1 v' (Dsk.dirtyTo S (k + 1)).length (ints (Dsk.dirtyTo S (k + 1))) by
          rw [unhide E, List.length_append, show ints (Dsk.dirtyTo S k ++ [(k : Int)]) = ints (Dsk.dirtyTo S k) ++ [.int .i64 (k : Int)] by simp [ints]]
          exact hown')
        have B3 := hide (((unhide B2).alloc (unhide B2).size _).grown hgrow (by have := (unhide B2).size; simp; omega) (fun g hg => ((unhide O2).lt g hg).1))
        obtain ⟨ao, n', cap, rfl⟩ : ∃ ao n' cap, v' = .slice ao n' cap := by
          rcases hown'.2 with ⟨hv, _⟩ | ⟨g, cap, cur, hv, _⟩
          · exact ⟨_, _, _, hv⟩
          · exact ⟨_, _, _, hv⟩
        clear hown' hgrow O2 B2
        go_wp2_with fail
        go_roundw
        case rel => exact ⟨k + 1, by omega, by go_num, O3, B3⟩
        case measure => simp [intOf]; omega
    case neg =>
      have t14 : decide ((k : Int) < 14) = false := by simp; omega
      obtain rfl : k = 14 := by omega
      have D := hide (decimals_any (Dsk.dirtyTo S 14) (by have := (unhide DL 14).1; omega) (fun n hn => by have := (unhide DL 14).2 n hn; exact ⟨by omega, by omega⟩) _ wr (unhide OW) (unhide BW).size ((unhide TB).at ((unhide H).call (unhide BW)).lo.bel))
      have hmark := hlt
      clear hlt
      go_wp2_with fail
      refine (unhide D).mono ?_
      rintro e w2 ⟨v, rfl, ho, b2⟩
      have R := hide (And.intro (show w2.ownsRow W.heap.size 9 1 v (Dsk.dirtyTo S 14).length (strs (decs (Dsk.dirtyTo S 14))) from ⟨ho.1, by
        rcases ho.2 with z | ⟨g, cap, cur, z1, z2, z3⟩
        · exact .inl z
        · exact .inr ⟨g, cap, cur, z1, Nat.le_trans (unhide BW).size z2, z3⟩⟩) ((unhide BW).trans (b2.mono (unhide BW).size)))
      clear ho b2 D
      go_wp2_with fail
      go_ret
      exact ⟨_, rfl, unhide R⟩
theorem line_len (x : List UInt8) (xs : List (List UInt8)) (K : Nat) (h : ∀ y ∈ xs, y.length ≤ K) : (Txt.line (x :: xs)).length ≤ x.length + xs.length * (K + 1) + 1 := by
  have ht : ∀ r : List (List UInt8), (∀ y ∈ r, y.length ≤ K) → (Txt.tailW r).length ≤ r.length * (K + 1) + 1 := by
    intro r
    induction r with
    | nil => intro _; simp [Txt.tailW]
    | cons y r ih =>
      intro h
      have h1 := h y (List.mem_cons_self ..)
      have h2 := ih (fun z hz => h z (List.mem_cons_of_mem _ hz))
      show (32 :: (y ++ Txt.tailW r)).length ≤ _
      rw [List.length_cons, List.length_append, List.length_cons, Nat.succ_mul]
      omega
  show (x ++ Txt.tailW xs).length ≤ _
  rw [List.length_append]
  have := ht xs h
  omega
theorem names_len {m : Img} (hm : m.check = 0) (d : Int) : (Img.snames m d).length ≤ 4 ∧ ∀ y ∈ Img.snames m d, y.toList.length ≤ 6 := by
  by_cases hd : 0 ≤ d ∧ d < 3
  · obtain ⟨k, rfl⟩ := Int.eq_ofNat_of_zero_le hd.1
    refine ⟨Sft.snames_len m hm (by omega), fun y hy => ?_⟩
    have := (Sft.snames_find hm (show k < 3 by omega) hy).2
    unfold Img.isNmB at this
    simp only [Bool.and_eq_true, decide_eq_true_eq] at this
    exact this.1.2
  · rw [show Img.snames m d = [] from if_neg hd]
    exact ⟨Nat.zero_le _, fun y hy => by cases hy⟩
theorem decs_list (ns : List Int) : (decs ns).map (·.toList) = ns.map Lib.itoa := by simp [decs, ByteArray.toList_mk]
set_option maxHeartbeats 2000000 in
set_option maxRecDepth 100000 in
theorem ask_read (h : Dk w B bd bl bf bc S l W) {n : Nat} (hO : S.Ok n) (x : Stp) (h1 : x.name.size ≤ maxLen) (tb : Tabs w) (hT : ∀ x, x < 9 → (S.now.text x).size ≤ 8) (hlen : l.length + 1000 ≤ 140737488355328) :
    Calls Tryz.prog 30 #[.pointer (some ⟨bd, 0, none⟩), .string ⟨#[114, 101, 97, 100]⟩, .agg (stpA x)] W fun e w' => e = .returned (.tuple #[]) ∧ Dk w B bd bl bf bc S (l ++ Dsk.ansRead S x) w' ∧ De B bd bl bf bc bf bc W w' := by
  have hB : Below W.heap.size W (W.alloc (.cells (stpA x) 84)) := (Below.refl _ W).alloc (Nat.le_refl _) _
  have BB := hide hB
  have r1 := hide (show (W.alloc (.cells (stpA x) 84)).heap[W.heap.size]? = some (.cells (stpA x) 84) from heap_alloc_last _ _)
  have D := hide (dRead_any (h.call hB) hO hT x h1 tb (by omega))
  clear h hO h1 tb hlen hB hT
  generalize Dsk.ansRead S x = ans at *
  go_enter Tryz.func30, Tryz.ntmps30
  go_wp2_with (have hx := unhide r1; refine wpList_load_row rfl 84 _ rfl W.heap.size rfl 84 (stpA x) (0, 0) _ hx stp_under7 rfl stp_info7 ?_; clear hx r1)
  refine (unhide D).mono ?_
  rintro e w9 ⟨rfl, h9, f9⟩
  have R := hide (And.intro h9 ((De.of_below (unhide BB)).trans f9))
  clear h9 f9 D
  go_wp2_with fail
  go_end0
  exact ⟨rfl, unhide R⟩
set_option maxHeartbeats 2000000 in
set_option maxRecDepth 100000 in
theorem ask_list (h : Dk w B bd bl bf bc S l W) {n : Nat} (hO : S.Ok n) (x : Stp) (h1 : x.name.size ≤ maxLen) (tb : Tabs w) (hlen : l.length + 1000 ≤ 140737488355328) :
    Calls Tryz.prog 30 #[.pointer (some ⟨bd, 0, none⟩), .string ⟨#[108, 105, 115, 116]⟩, .agg (stpA x)] W fun e w' => e = .returned (.tuple #[]) ∧ Dk w B bd bl bf bc S (l ++ Txt.line (Dsk.wNames :: (Img.snames S.now x.dir).map (·.toList))) w' ∧ De B bd bl bf bc bf bc W w' := by
  obtain ⟨X, hX⟩ : ∃ X, X = (W.alloc (.cells (stpA x) 84)).drew := ⟨_, rfl⟩
  have hB : Below W.heap.size W X := by rw [hX]; exact ((Below.refl _ W).alloc (Nat.le_refl _) _).drew
  have H1 := hide (h.call hB)
  have BB := hide hB
  have r1 : X.heap[W.heap.size]? = some (.cells (stpA x) 84) := by rw [hX]; exact heap_alloc_last _ _
  have CF := hide ((unhide H1).lo.fo.list hO.hold.good.ex.ok x.dir)
  have NL := hide (names_len hO.hold.good.ex.ok x.dir)
  have OW := hide (fun V (hv : Dk w B bd bl bf bc S l V) v (ho : V.ownsRow X.heap.size 9 1 v (Img.snames S.now x.dir).length (strs (Img.snames S.now x.dir))) => dSay_w hv Dsk.wNames ((Img.snames S.now x.dir).map (·.toList)) _ rfl v ho (by have := (unhide NL).1; omega) (by
    have := line_len Dsk.wNames ((Img.snames S.now x.dir).map (·.toList)) 6 (fun y hy => by obtain ⟨z, hz, rfl⟩ := List.mem_map.1 hy; exact (unhide NL).2 z hz)
    have h4 := (unhide NL).1
    rw [List.length_map, show Dsk.wNames.length = 5 from rfl] at this
    omega))
  unfold Dsk.wNames at OW ⊢
  generalize Txt.line _ = ans at *
  generalize Img.snames S.now x.dir = nms at *
  clear h hB hO h1 tb hlen NL
  have HX := hide hX
  go_enter Tryz.func30, Tryz.ntmps30
  go_upto_region 5 with fail
  refine wp_region_held_drew (S := fun V => Sq bd bl bf W.heap.size (stpA x) 84 V) (by kernel_rfl) (by rw [← unhide HX]; exact sq_of (unhide H1) r1) (fun hS => ?_)
  refine wpAnyH_take (i := 0) (oi := { dst := some 16, op := Op.move (Operand.tmp 0), type := 25, pos := "desk.go:165", after := #[], guard := none }) (v := .pointer (some ⟨bd, 0, none⟩)) rfl (by kernel_rfl) (by kernel_rfl) (by kernel_rfl) (fun _ _ _ h => h) (Or.inl ⟨by kernel_rfl, fun W h => (by first | kernel_rfl | go_simp)⟩) hS ?_
  try simp only [Act.put, List.setIfInBounds_toArray, List.set_cons_zero, List.set_cons_succ]
  refine wpAnyH_take (i := 1) (oi := { dst := some 17, op := Op.move (Operand.tmp 0), type := 25, pos := "desk.go:165", after := #[], guard := none }) (v := .pointer (some ⟨bd, 0, none⟩)) rfl (by kernel_rfl) (by kernel_rfl) (by kernel_rfl) (fun _ _ _ h => h) (Or.inl ⟨by kernel_rfl, fun W h => (by first | kernel_rfl | go_simp)⟩) hS ?_
  try simp only [Act.put, List.setIfInBounds_toArray, List.set_cons_zero, List.set_cons_succ]
  refine wpAnyH_take (i := 2) (oi := { dst := some 18, op := Op.nilCheck (Operand.tmp 17), type := 0, pos := "desk.go:165", after := #[{ on := 1, ground := Ground.data }], guard := none }) (v := .pointer (some ⟨bd, 0, none⟩)) rfl (by kernel_rfl) (by kernel_rfl) (by kernel_rfl) (fun _ _ _ h => h) (Or.inl ⟨by kernel_rfl, fun W h => (by first | kernel_rfl | go_simp)⟩) hS ?_
  try simp only [Act.put, List.setIfInBounds_toArray, List.set_cons_zero, List.set_cons_succ]
  refine wpAnyH_take (i := 3) (oi := { dst := some 19, op := Op.fieldAddr 46 (Operand.tmp 18) 1, type := 0, pos := "desk.go:165", after := #[{ on := 2, ground := Ground.data }], guard := none }) (v := .pointer (some ⟨bd, 2, none⟩)) rfl (by kernel_rfl) (by kernel_rfl) (by kernel_rfl) (fun _ _ _ h => h) (Or.inl ⟨by kernel_rfl, fun W h => (by first | kernel_rfl | go_simp)⟩) hS ?_
  try simp only [Act.put, List.setIfInBounds_toArray, List.set_cons_zero, List.set_cons_succ]
  refine wpAnyH_take (i := 4) (oi := { dst := some 20, op := Op.load 39 (Operand.tmp 19), type := 39, pos := "desk.go:165", after := #[{ on := 3, ground := Ground.data }], guard := none }) (v := .pointer (some ⟨bl, 0, none⟩)) rfl (by kernel_rfl) (by kernel_rfl) (by kernel_rfl) (fun _ _ _ h => h) (Or.inl ⟨by kernel_rfl, fun W h => Op9.ld_life (.tmp 19) (by kernel_rfl) (by kernel_rfl) W (h.p0)⟩) hS ?_
  try simp only [Act.put, List.setIfInBounds_toArray, List.set_cons_zero, List.set_cons_succ]
  refine wpAnyH_take (i := 5) (oi := { dst := some 21, op := Op.nilCheck (Operand.tmp 20), type := 0, pos := "desk.go:165", after := #[{ on := 4, ground := Ground.data }], guard := none }) (v := .pointer (some ⟨bl, 0, none⟩)) rfl (by kernel_rfl) (by kernel_rfl) (by kernel_rfl) (fun _ _ _ h => h) (Or.inl ⟨by kernel_rfl, fun W h => (by first | kernel_rfl | go_simp)⟩) hS ?_
  try simp only [Act.put, List.setIfInBounds_toArray, List.set_cons_zero, List.set_cons_succ]
  refine wpAnyH_take (i := 6) (oi := { dst := some 22, op := Op.fieldAddr 65 (Operand.tmp 21) 0, type := 0, pos := "desk.go:165", after := #[{ on := 5, ground := Ground.data }], guard := none }) (v := .pointer (some ⟨bl, 0, none⟩)) rfl (by kernel_rfl) (by kernel_rfl) (by kernel_rfl) (fun _ _ _ h => h) (Or.inl ⟨by kernel_rfl, fun W h => (by first | kernel_rfl | go_simp)⟩) hS ?_
  try simp only [Act.put, List.setIfInBounds_toArray, List.set_cons_zero, List.set_cons_succ]
  refine wpAnyH_take (i := 7) (oi := { dst := some 23, op := Op.load 60 (Operand.tmp 22), type := 60, pos := "desk.go:165", after := #[{ on := 6, ground := Ground.data }], guard := none }) (v := .pointer (some ⟨bf, 0, none⟩)) rfl (by kernel_rfl) (by kernel_rfl) (by kernel_rfl) (fun _ _ _ h => h) (Or.inl ⟨by kernel_rfl, fun W h => Op1.ld_files (.tmp 22) (by kernel_rfl) (by kernel_rfl) W (h.p1)⟩) hS ?_
  try simp only [Act.put, List.setIfInBounds_toArray, List.set_cons_zero, List.set_cons_succ]
  refine wpAnyH_take (i := 8) (oi := { dst := some 24, op := Op.fieldAddr 84 (Operand.tmp 5) 1, type := 0, pos := "desk.go:165", after := #[], guard := none }) (v := .pointer (some ⟨W.heap.size, 1, none⟩)) rfl (by kernel_rfl) (by kernel_rfl) (by kernel_rfl) (fun _ _ _ h => h) (Or.inl ⟨by kernel_rfl, fun W h => (by first | kernel_rfl | go_simp)⟩) hS ?_
  try simp only [Act.put, List.setIfInBounds_toArray, List.set_cons_zero, List.set_cons_succ]
  refine wpAnyH_take (i := 9) (oi := { dst := some 25, op := Op.load 3 (Operand.tmp 24), type := 3, pos := "desk.go:165", after := #[{ on := 8, ground := Ground.data }], guard := none }) (v := .int .i64 x.dir) rfl (by kernel_rfl) (by kernel_rfl) (by kernel_rfl) (fun _ _ _ h => h) (Or.inl ⟨by kernel_rfl, fun W h => Op9.ld_int (.tmp 24) (by kernel_rfl) (by kernel_rfl) W (sq_dir h)⟩) hS ?_
  try simp only [Act.put, List.setIfInBounds_toArray, List.set_cons_zero, List.set_cons_succ]
  refine wpAnyH_ready (rs := [10]) (by kernel_rfl) (by simp) ?_
  refine AllReadyH.cons (o := { dst := some 26, op := Op.call { callee := Callee.value (Operand.func 55), args := #[Operand.tmp 23, Operand.tmp 25], argTypes := #[60, 3] }, type := 22, pos := "desk.go:165", after := #[{ on := 7, ground := Ground.data }, { on := 9, ground := Ground.data }], guard := none }) rfl (fun K hK => ?_) AllReadyH.nil
  rw [if_pos (by kernel_rfl)]
  go_simp
  rw [← unhide HX]
  refine (unhide CF).mono ?_
  rintro e w2 ⟨v, rfl, ho, _, b2⟩
  have H2 := hide ((unhide H1).call b2)
  have DD := hide (show De B bd bl bf bc bf bc W w2 from De.of_below ((unhide BB).trans (b2.mono (unhide BB).size)))
  have O := hide (unhide OW w2 (unhide H2) v ho)
  have S2 : Sq bd bl bf W.heap.size (stpA x) 84 w2 := sq_of (unhide H2) (by rw [b2.block _ (Array.getElem?_eq_some_iff.1 r1).1]; exact r1)
  clear b2 CF OW ho
  go_wp2_with fail
  refine hK.out _ _ (S2) (fun hS2 => ?_)
  clear hK K
  try simp only [Act.put, List.setIfInBounds_toArray, List.set_cons_zero, List.set_cons_succ]
  refine wpAnyH_ready (rs := [11]) (by kernel_rfl) (by simp) ?_
  refine AllReadyH.cons (o := { dst := some 27, op := Op.call { callee := Callee.value (Operand.func 28), args := #[Operand.tmp 16, Operand.const (Value.string { data := #[110, 97, 109, 101, 115] }), Operand.tmp 26], argTypes := #[25, 9, 22] }, type := 0, pos := "desk.go:165", after := #[{ on := 0, ground := Ground.data }, { on := 10, ground := Ground.data }, { on := 10, ground := Ground.chain }], guard := none }) rfl (fun K hK => ?_) AllReadyH.nil
  rw [if_pos (by kernel_rfl)]
  go_simp
  refine (unhide O).mono ?_
  rintro e w9 ⟨rfl, h9, f9⟩
  have S9 : Sq bd bl bf W.heap.size (stpA x) 84 w9 := S2.df h9 f9 (unhide H2).row (by decide) (by decide)
  have R := hide (And.intro h9 ((unhide DD).trans (De.of_df f9)))
  clear h9 f9
  go_wp2_with fail
  refine hK.out _ _ (S9) (fun hS9 => ?_)
  clear hK K
  try simp only [Act.put, List.setIfInBounds_toArray, List.set_cons_zero, List.set_cons_succ]
  refine wpAnyH_done (by kernel_rfl) ?_ _
  clear hS hS2 hS9 S9
  go_wp2_with fail
  go_end0
  exact ⟨rfl, unhide R⟩
set_option maxHeartbeats 2000000 in
set_option maxRecDepth 100000 in
theorem ask_same (h : Dk w B bd bl bf bc S l W) {n : Nat} (hO : S.Ok n) (x : Stp) (h1 : x.name.size ≤ maxLen) (tb : Tabs w) (hlen : l.length + 1000 ≤ 140737488355328) :
    Calls Tryz.prog 30 #[.pointer (some ⟨bd, 0, none⟩), .string ⟨#[115, 97, 109, 101]⟩, .agg (stpA x)] W fun e w' => e = .returned (.tuple #[]) ∧ Dk w B bd bl bf bc S (l ++ Txt.line [Dsk.yes (Img.ssame S.now x.dir x.name x.toDir x.to)]) w' ∧ De B bd bl bf bc bf bc W w' := by
  obtain ⟨X, hX⟩ : ∃ X, X = (W.alloc (.cells (stpA x) 84)).drew := ⟨_, rfl⟩
  have hB : Below W.heap.size W X := by rw [hX]; exact ((Below.refl _ W).alloc (Nat.le_refl _) _).drew
  have H1 := hide (h.call hB)
  have BB := hide hB
  have r1 : X.heap[W.heap.size]? = some (.cells (stpA x) 84) := by rw [hX]; exact heap_alloc_last _ _
  have CF := hide (fun V (hv : Dk w B bd bl bf bc S l V) => hv.lo.fo.same x.dir x.name x.toDir x.to)
  have OW := hide (fun V (hv : Dk w B bd bl bf bc S l V) => dWord_any hv (Dsk.yes (Img.ssame S.now x.dir x.name x.toDir x.to)) (by unfold Dsk.yes; split <;> (first | (show _ + 4 + 10 ≤ _; omega) | (show _ + 5 + 10 ≤ _; omega))))
  have FB := hide (fun V => fbool_any (Img.ssame S.now x.dir x.name x.toDir x.to) V)
  generalize Img.ssame S.now x.dir x.name x.toDir x.to = bo at *
  generalize Txt.line _ = ans at *
  generalize Dsk.yes bo = yn at *
  clear h hB hO h1 tb hlen
  have HX := hide hX
  go_enter Tryz.func30, Tryz.ntmps30
  go_upto_region 7 with fail
  refine wp_region_held_drew (S := fun V => Sq bd bl bf W.heap.size (stpA x) 84 V) (by kernel_rfl) (by rw [← unhide HX]; exact sq_of (unhide H1) r1) (fun hS => ?_)
  refine wpAnyH_take (i := 0) (oi := { dst := some 30, op := Op.move (Operand.tmp 0), type := 25, pos := "desk.go:167", after := #[], guard := none }) (v := .pointer (some ⟨bd, 0, none⟩)) rfl (by kernel_rfl) (by kernel_rfl) (by kernel_rfl) (fun _ _ _ h => h) (Or.inl ⟨by kernel_rfl, fun W h => (by first | kernel_rfl | go_simp)⟩) hS ?_
  try simp only [Act.put, List.setIfInBounds_toArray, List.set_cons_zero, List.set_cons_succ]
  refine wpAnyH_take (i := 1) (oi := { dst := some 31, op := Op.move (Operand.tmp 0), type := 25, pos := "desk.go:167", after := #[], guard := none }) (v := .pointer (some ⟨bd, 0, none⟩)) rfl (by kernel_rfl) (by kernel_rfl) (by kernel_rfl) (fun _ _ _ h => h) (Or.inl ⟨by kernel_rfl, fun W h => (by first | kernel_rfl | go_simp)⟩) hS ?_
  try simp only [Act.put, List.setIfInBounds_toArray, List.set_cons_zero, List.set_cons_succ]
  refine wpAnyH_take (i := 2) (oi := { dst := some 32, op := Op.nilCheck (Operand.tmp 31), type := 0, pos := "desk.go:167", after := #[{ on := 1, ground := Ground.data }], guard := none }) (v := .pointer (some ⟨bd, 0, none⟩)) rfl (by kernel_rfl) (by kernel_rfl) (by kernel_rfl) (fun _ _ _ h => h) (Or.inl ⟨by kernel_rfl, fun W h => (by first | kernel_rfl | go_simp)⟩) hS ?_
  try simp only [Act.put, List.setIfInBounds_toArray, List.set_cons_zero, List.set_cons_succ]
  refine wpAnyH_take (i := 3) (oi := { dst := some 33, op := Op.fieldAddr 46 (Operand.tmp 32) 1, type := 0, pos := "desk.go:167", after := #[{ on := 2, ground := Ground.data }], guard := none }) (v := .pointer (some ⟨bd, 2, none⟩)) rfl (by kernel_rfl) (by kernel_rfl) (by kernel_rfl) (fun _ _ _ h => h) (Or.inl ⟨by kernel_rfl, fun W h => (by first | kernel_rfl | go_simp)⟩) hS ?_
  try simp only [Act.put, List.setIfInBounds_toArray, List.set_cons_zero, List.set_cons_succ]
  refine wpAnyH_take (i := 4) (oi := { dst := some 34, op := Op.load 39 (Operand.tmp 33), type := 39, pos := "desk.go:167", after := #[{ on := 3, ground := Ground.data }], guard := none }) (v := .pointer (some ⟨bl, 0, none⟩)) rfl (by kernel_rfl) (by kernel_rfl) (by kernel_rfl) (fun _ _ _ h => h) (Or.inl ⟨by kernel_rfl, fun W h => Op9.ld_life (.tmp 33) (by kernel_rfl) (by kernel_rfl) W (h.p0)⟩) hS ?_
  try simp only [Act.put, List.setIfInBounds_toArray, List.set_cons_zero, List.set_cons_succ]
  refine wpAnyH_take (i := 5) (oi := { dst := some 35, op := Op.nilCheck (Operand.tmp 34), type := 0, pos := "desk.go:167", after := #[{ on := 4, ground := Ground.data }], guard := none }) (v := .pointer (some ⟨bl, 0, none⟩)) rfl (by kernel_rfl) (by kernel_rfl) (by kernel_rfl) (fun _ _ _ h => h) (Or.inl ⟨by kernel_rfl, fun W h => (by first | kernel_rfl | go_simp)⟩) hS ?_
  try simp only [Act.put, List.setIfInBounds_toArray, List.set_cons_zero, List.set_cons_succ]
  refine wpAnyH_take (i := 6) (oi := { dst := some 36, op := Op.fieldAddr 65 (Operand.tmp 35) 0, type := 0, pos := "desk.go:167", after := #[{ on := 5, ground := Ground.data }], guard := none }) (v := .pointer (some ⟨bl, 0, none⟩)) rfl (by kernel_rfl) (by kernel_rfl) (by kernel_rfl) (fun _ _ _ h => h) (Or.inl ⟨by kernel_rfl, fun W h => (by first | kernel_rfl | go_simp)⟩) hS ?_
  try simp only [Act.put, List.setIfInBounds_toArray, List.set_cons_zero, List.set_cons_succ]
  refine wpAnyH_take (i := 7) (oi := { dst := some 37, op := Op.load 60 (Operand.tmp 36), type := 60, pos := "desk.go:167", after := #[{ on := 6, ground := Ground.data }], guard := none }) (v := .pointer (some ⟨bf, 0, none⟩)) rfl (by kernel_rfl) (by kernel_rfl) (by kernel_rfl) (fun _ _ _ h => h) (Or.inl ⟨by kernel_rfl, fun W h => Op1.ld_files (.tmp 36) (by kernel_rfl) (by kernel_rfl) W (h.p1)⟩) hS ?_
  try simp only [Act.put, List.setIfInBounds_toArray, List.set_cons_zero, List.set_cons_succ]
  refine wpAnyH_take (i := 8) (oi := { dst := some 38, op := Op.fieldAddr 84 (Operand.tmp 5) 1, type := 0, pos := "desk.go:167", after := #[], guard := none }) (v := .pointer (some ⟨W.heap.size, 1, none⟩)) rfl (by kernel_rfl) (by kernel_rfl) (by kernel_rfl) (fun _ _ _ h => h) (Or.inl ⟨by kernel_rfl, fun W h => (by first | kernel_rfl | go_simp)⟩) hS ?_
  try simp only [Act.put, List.setIfInBounds_toArray, List.set_cons_zero, List.set_cons_succ]
  refine wpAnyH_take (i := 9) (oi := { dst := some 39, op := Op.load 3 (Operand.tmp 38), type := 3, pos := "desk.go:167", after := #[{ on := 8, ground := Ground.data }], guard := none }) (v := .int .i64 x.dir) rfl (by kernel_rfl) (by kernel_rfl) (by kernel_rfl) (fun _ _ _ h => h) (Or.inl ⟨by kernel_rfl, fun W h => Op9.ld_int (.tmp 38) (by kernel_rfl) (by kernel_rfl) W (sq_dir h)⟩) hS ?_
  try simp only [Act.put, List.setIfInBounds_toArray, List.set_cons_zero, List.set_cons_succ]
  refine wpAnyH_take (i := 10) (oi := { dst := some 40, op := Op.fieldAddr 84 (Operand.tmp 5) 4, type := 0, pos := "desk.go:167", after := #[], guard := none }) (v := .pointer (some ⟨W.heap.size, 4, none⟩)) rfl (by kernel_rfl) (by kernel_rfl) (by kernel_rfl) (fun _ _ _ h => h) (Or.inl ⟨by kernel_rfl, fun W h => (by first | kernel_rfl | go_simp)⟩) hS ?_
  try simp only [Act.put, List.setIfInBounds_toArray, List.set_cons_zero, List.set_cons_succ]
  refine wpAnyH_take (i := 11) (oi := { dst := some 41, op := Op.load 9 (Operand.tmp 40), type := 9, pos := "desk.go:167", after := #[{ on := 10, ground := Ground.data }], guard := none }) (v := .string x.name) rfl (by kernel_rfl) (by kernel_rfl) (by kernel_rfl) (fun _ _ _ h => h) (Or.inl ⟨by kernel_rfl, fun W h => Op9.ld_str (.tmp 40) (by kernel_rfl) (by kernel_rfl) W (sq_name h)⟩) hS ?_
  try simp only [Act.put, List.setIfInBounds_toArray, List.set_cons_zero, List.set_cons_succ]
  refine wpAnyH_take (i := 12) (oi := { dst := some 42, op := Op.fieldAddr 84 (Operand.tmp 5) 2, type := 0, pos := "desk.go:167", after := #[], guard := none }) (v := .pointer (some ⟨W.heap.size, 2, none⟩)) rfl (by kernel_rfl) (by kernel_rfl) (by kernel_rfl) (fun _ _ _ h => h) (Or.inl ⟨by kernel_rfl, fun W h => (by first | kernel_rfl | go_simp)⟩) hS ?_
  try simp only [Act.put, List.setIfInBounds_toArray, List.set_cons_zero, List.set_cons_succ]
  refine wpAnyH_take (i := 13) (oi := { dst := some 43, op := Op.load 3 (Operand.tmp 42), type := 3, pos := "desk.go:167", after := #[{ on := 12, ground := Ground.data }], guard := none }) (v := .int .i64 x.toDir) rfl (by kernel_rfl) (by kernel_rfl) (by kernel_rfl) (fun _ _ _ h => h) (Or.inl ⟨by kernel_rfl, fun W h => Op9.ld_int (.tmp 42) (by kernel_rfl) (by kernel_rfl) W (sq_todir h)⟩) hS ?_
  try simp only [Act.put, List.setIfInBounds_toArray, List.set_cons_zero, List.set_cons_succ]
  refine wpAnyH_take (i := 14) (oi := { dst := some 44, op := Op.fieldAddr 84 (Operand.tmp 5) 5, type := 0, pos := "desk.go:167", after := #[], guard := none }) (v := .pointer (some ⟨W.heap.size, 5, none⟩)) rfl (by kernel_rfl) (by kernel_rfl) (by kernel_rfl) (fun _ _ _ h => h) (Or.inl ⟨by kernel_rfl, fun W h => (by first | kernel_rfl | go_simp)⟩) hS ?_
  try simp only [Act.put, List.setIfInBounds_toArray, List.set_cons_zero, List.set_cons_succ]
  refine wpAnyH_take (i := 15) (oi := { dst := some 45, op := Op.load 9 (Operand.tmp 44), type := 9, pos := "desk.go:167", after := #[{ on := 14, ground := Ground.data }], guard := none }) (v := .string x.to) rfl (by kernel_rfl) (by kernel_rfl) (by kernel_rfl) (fun _ _ _ h => h) (Or.inl ⟨by kernel_rfl, fun W h => Op9.ld_str (.tmp 44) (by kernel_rfl) (by kernel_rfl) W (sq_to h)⟩) hS ?_
  try simp only [Act.put, List.setIfInBounds_toArray, List.set_cons_zero, List.set_cons_succ]
  refine wpAnyH_ready (rs := [16]) (by kernel_rfl) (by simp) ?_
  refine AllReadyH.cons (o := { dst := some 46, op := Op.call { callee := Callee.value (Operand.func 57), args := #[Operand.tmp 37, Operand.tmp 39, Operand.tmp 41, Operand.tmp 43, Operand.tmp 45], argTypes := #[60, 3, 9, 3, 9] }, type := 4, pos := "desk.go:167", after := #[{ on := 7, ground := Ground.data }, { on := 9, ground := Ground.data }, { on := 11, ground := Ground.data }, { on := 13, ground := Ground.data }, { on := 15, ground := Ground.data }], guard := none }) rfl (fun K hK => ?_) AllReadyH.nil
  rw [if_pos (by kernel_rfl)]
  go_simp
  rw [← unhide HX]
  refine (unhide CF _ (unhide H1)).mono ?_
  rintro e w2 ⟨rfl, e9⟩
  have b2 : Below X.heap.size X w2 := by rw [e9]; exact Below.refl _ _
  clear e9
  have H2 := hide ((unhide H1).call b2)
  have DD := hide (show De B bd bl bf bc bf bc W w2 from De.of_below ((unhide BB).trans (b2.mono (unhide BB).size)))
  have O := hide (unhide OW w2 (unhide H2))
  have S2 : Sq bd bl bf W.heap.size (stpA x) 84 w2 := sq_of (unhide H2) (by rw [b2.block _ (Array.getElem?_eq_some_iff.1 r1).1]; exact r1)
  clear b2 CF OW
  go_wp2_with fail
  refine hK.out _ _ (S2) (fun hS2 => ?_)
  clear hK K
  try simp only [Act.put, List.setIfInBounds_toArray, List.set_cons_zero, List.set_cons_succ]
  refine wpAnyH_ready (rs := [17]) (by kernel_rfl) (by simp) ?_
  refine AllReadyH.cons (o := { dst := some 47, op := Op.call { callee := Callee.value (Operand.func 56), args := #[Operand.tmp 46], argTypes := #[4] }, type := 9, pos := "desk.go:167", after := #[{ on := 16, ground := Ground.data }, { on := 16, ground := Ground.chain }], guard := none }) rfl (fun K hK => ?_) AllReadyH.nil
  rw [if_pos (by kernel_rfl)]
  go_simp
  refine (unhide FB w2).mono ?_
  rintro e w3 ⟨rfl, e9⟩
  rw [e9]
  clear e9 w3
  go_wp2_with fail
  refine hK.out _ _ (S2) (fun hS3 => ?_)
  clear hK K
  try simp only [Act.put, List.setIfInBounds_toArray, List.set_cons_zero, List.set_cons_succ]
  refine wpAnyH_ready (rs := [18]) (by kernel_rfl) (by simp) ?_
  refine AllReadyH.cons (o := { dst := some 48, op := Op.call { callee := Callee.value (Operand.func 28), args := #[Operand.tmp 30, Operand.tmp 47, Operand.const (Value.slice none 0 0)], argTypes := #[25, 9, 22] }, type := 0, pos := "desk.go:167", after := #[{ on := 0, ground := Ground.data }, { on := 17, ground := Ground.data }, { on := 17, ground := Ground.chain }], guard := none }) rfl (fun K hK => ?_) AllReadyH.nil
  rw [if_pos (by kernel_rfl)]
  go_simp
  refine (unhide O).mono ?_
  rintro e w9 ⟨rfl, h9, f9⟩
  have S9 : Sq bd bl bf W.heap.size (stpA x) 84 w9 := S2.df h9 f9 (unhide H2).row (by decide) (by decide)
  have R := hide (And.intro h9 ((unhide DD).trans (De.of_df f9)))
  clear h9 f9
  go_wp2_with fail
  refine hK.out _ _ (S9) (fun hS9 => ?_)
  clear hK K
  try simp only [Act.put, List.setIfInBounds_toArray, List.set_cons_zero, List.set_cons_succ]
  refine wpAnyH_done (by kernel_rfl) ?_ _
  clear hS hS2 hS9 S9
  go_wp2_with fail
  go_end0
  exact ⟨rfl, unhide R⟩
set_option maxHeartbeats 2000000 in
set_option maxRecDepth 100000 in
theorem ask_sure (h : Dk w B bd bl bf bc S l W) {n : Nat} (hO : S.Ok n) (x : Stp) (h1 : x.name.size ≤ maxLen) (tb : Tabs w) (hlen : l.length + 1000 ≤ 140737488355328) :
    Calls Tryz.prog 30 #[.pointer (some ⟨bd, 0, none⟩), .string ⟨#[115, 117, 114, 101]⟩, .agg (stpA x)] W fun e w' => e = .returned (.tuple #[]) ∧ Dk w B bd bl bf bc S (l ++ Txt.line [Dsk.yes (Img.ssure S.now S.disk x.dir x.name)]) w' ∧ De B bd bl bf bc bf bc W w' := by
  obtain ⟨X, hX⟩ : ∃ X, X = (W.alloc (.cells (stpA x) 84)).drew := ⟨_, rfl⟩
  have hB : Below W.heap.size W X := by rw [hX]; exact ((Below.refl _ W).alloc (Nat.le_refl _) _).drew
  have H1 := hide (h.call hB)
  have BB := hide hB
  have r1 : X.heap[W.heap.size]? = some (.cells (stpA x) 84) := by rw [hX]; exact heap_alloc_last _ _
  have CF := hide (fun V (hv : Dk w B bd bl bf bc S l V) => hv.lo.fo.sure x.dir x.name)
  have OW := hide (fun V (hv : Dk w B bd bl bf bc S l V) => dWord_any hv (Dsk.yes (Img.ssure S.now S.disk x.dir x.name)) (by unfold Dsk.yes; split <;> (first | (show _ + 4 + 10 ≤ _; omega) | (show _ + 5 + 10 ≤ _; omega))))
  have FB := hide (fun V => fbool_any (Img.ssure S.now S.disk x.dir x.name) V)
  generalize Img.ssure S.now S.disk x.dir x.name = bo at *
  generalize Txt.line _ = ans at *
  generalize Dsk.yes bo = yn at *
  clear h hB hO h1 tb hlen
  have HX := hide hX
  go_enter Tryz.func30, Tryz.ntmps30
  go_upto_region 9 with fail
  refine wp_region_held_drew (S := fun V => Sq bd bl bf W.heap.size (stpA x) 84 V) (by kernel_rfl) (by rw [← unhide HX]; exact sq_of (unhide H1) r1) (fun hS => ?_)
  refine wpAnyH_take (i := 0) (oi := { dst := some 51, op := Op.move (Operand.tmp 0), type := 25, pos := "desk.go:169", after := #[], guard := none }) (v := .pointer (some ⟨bd, 0, none⟩)) rfl (by kernel_rfl) (by kernel_rfl) (by kernel_rfl) (fun _ _ _ h => h) (Or.inl ⟨by kernel_rfl, fun W h => (by first | kernel_rfl | go_simp)⟩) hS ?_
  try simp only [Act.put, List.setIfInBounds_toArray, List.set_cons_zero, List.set_cons_succ]
  refine wpAnyH_take (i := 1) (oi := { dst := some 52, op := Op.move (Operand.tmp 0), type := 25, pos := "desk.go:169", after := #[], guard := none }) (v := .pointer (some ⟨bd, 0, none⟩)) rfl (by kernel_rfl) (by kernel_rfl) (by kernel_rfl) (fun _ _ _ h => h) (Or.inl ⟨by kernel_rfl, fun W h => (by first | kernel_rfl | go_simp)⟩) hS ?_
  try simp only [Act.put, List.setIfInBounds_toArray, List.set_cons_zero, List.set_cons_succ]
  refine wpAnyH_take (i := 2) (oi := { dst := some 53, op := Op.nilCheck (Operand.tmp 52), type := 0, pos := "desk.go:169", after := #[{ on := 1, ground := Ground.data }], guard := none }) (v := .pointer (some ⟨bd, 0, none⟩)) rfl (by kernel_rfl) (by kernel_rfl) (by kernel_rfl) (fun _ _ _ h => h) (Or.inl ⟨by kernel_rfl, fun W h => (by first | kernel_rfl | go_simp)⟩) hS ?_
  try simp only [Act.put, List.setIfInBounds_toArray, List.set_cons_zero, List.set_cons_succ]
  refine wpAnyH_take (i := 3) (oi := { dst := some 54, op := Op.fieldAddr 46 (Operand.tmp 53) 1, type := 0, pos := "desk.go:169", after := #[{ on := 2, ground := Ground.data }], guard := none }) (v := .pointer (some ⟨bd, 2, none⟩)) rfl (by kernel_rfl) (by kernel_rfl) (by kernel_rfl) (fun _ _ _ h => h) (Or.inl ⟨by kernel_rfl, fun W h => (by first | kernel_rfl | go_simp)⟩) hS ?_
  try simp only [Act.put, List.setIfInBounds_toArray, List.set_cons_zero, List.set_cons_succ]
  refine wpAnyH_take (i := 4) (oi := { dst := some 55, op := Op.load 39 (Operand.tmp 54), type := 39, pos := "desk.go:169", after := #[{ on := 3, ground := Ground.data }], guard := none }) (v := .pointer (some ⟨bl, 0, none⟩)) rfl (by kernel_rfl) (by kernel_rfl) (by kernel_rfl) (fun _ _ _ h => h) (Or.inl ⟨by kernel_rfl, fun W h => Op9.ld_life (.tmp 54) (by kernel_rfl) (by kernel_rfl) W (h.p0)⟩) hS ?_
  try simp only [Act.put, List.setIfInBounds_toArray, List.set_cons_zero, List.set_cons_succ]
  refine wpAnyH_take (i := 5) (oi := { dst := some 56, op := Op.nilCheck (Operand.tmp 55), type := 0, pos := "desk.go:169", after := #[{ on := 4, ground := Ground.data }], guard := none }) (v := .pointer (some ⟨bl, 0, none⟩)) rfl (by kernel_rfl) (by kernel_rfl) (by kernel_rfl) (fun _ _ _ h => h) (Or.inl ⟨by kernel_rfl, fun W h => (by first | kernel_rfl | go_simp)⟩) hS ?_
  try simp only [Act.put, List.setIfInBounds_toArray, List.set_cons_zero, List.set_cons_succ]
  refine wpAnyH_take (i := 6) (oi := { dst := some 57, op := Op.fieldAddr 65 (Operand.tmp 56) 0, type := 0, pos := "desk.go:169", after := #[{ on := 5, ground := Ground.data }], guard := none }) (v := .pointer (some ⟨bl, 0, none⟩)) rfl (by kernel_rfl) (by kernel_rfl) (by kernel_rfl) (fun _ _ _ h => h) (Or.inl ⟨by kernel_rfl, fun W h => (by first | kernel_rfl | go_simp)⟩) hS ?_
  try simp only [Act.put, List.setIfInBounds_toArray, List.set_cons_zero, List.set_cons_succ]
  refine wpAnyH_take (i := 7) (oi := { dst := some 58, op := Op.load 60 (Operand.tmp 57), type := 60, pos := "desk.go:169", after := #[{ on := 6, ground := Ground.data }], guard := none }) (v := .pointer (some ⟨bf, 0, none⟩)) rfl (by kernel_rfl) (by kernel_rfl) (by kernel_rfl) (fun _ _ _ h => h) (Or.inl ⟨by kernel_rfl, fun W h => Op1.ld_files (.tmp 57) (by kernel_rfl) (by kernel_rfl) W (h.p1)⟩) hS ?_
  try simp only [Act.put, List.setIfInBounds_toArray, List.set_cons_zero, List.set_cons_succ]
  refine wpAnyH_take (i := 8) (oi := { dst := some 59, op := Op.fieldAddr 84 (Operand.tmp 5) 1, type := 0, pos := "desk.go:169", after := #[], guard := none }) (v := .pointer (some ⟨W.heap.size, 1, none⟩)) rfl (by kernel_rfl) (by kernel_rfl) (by kernel_rfl) (fun _ _ _ h => h) (Or.inl ⟨by kernel_rfl, fun W h => (by first | kernel_rfl | go_simp)⟩) hS ?_
  try simp only [Act.put, List.setIfInBounds_toArray, List.set_cons_zero, List.set_cons_succ]
  refine wpAnyH_take (i := 9) (oi := { dst := some 60, op := Op.load 3 (Operand.tmp 59), type := 3, pos := "desk.go:169", after := #[{ on := 8, ground := Ground.data }], guard := none }) (v := .int .i64 x.dir) rfl (by kernel_rfl) (by kernel_rfl) (by kernel_rfl) (fun _ _ _ h => h) (Or.inl ⟨by kernel_rfl, fun W h => Op9.ld_int (.tmp 59) (by kernel_rfl) (by kernel_rfl) W (sq_dir h)⟩) hS ?_
  try simp only [Act.put, List.setIfInBounds_toArray, List.set_cons_zero, List.set_cons_succ]
  refine wpAnyH_take (i := 10) (oi := { dst := some 61, op := Op.fieldAddr 84 (Operand.tmp 5) 4, type := 0, pos := "desk.go:169", after := #[], guard := none }) (v := .pointer (some ⟨W.heap.size, 4, none⟩)) rfl (by kernel_rfl) (by kernel_rfl) (by kernel_rfl) (fun _ _ _ h => h) (Or.inl ⟨by kernel_rfl, fun W h => (by first | kernel_rfl | go_simp)⟩) hS ?_
  try simp only [Act.put, List.setIfInBounds_toArray, List.set_cons_zero, List.set_cons_succ]
  refine wpAnyH_take (i := 11) (oi := { dst := some 62, op := Op.load 9 (Operand.tmp 61), type := 9, pos := "desk.go:169", after := #[{ on := 10, ground := Ground.data }], guard := none }) (v := .string x.name) rfl (by kernel_rfl) (by kernel_rfl) (by kernel_rfl) (fun _ _ _ h => h) (Or.inl ⟨by kernel_rfl, fun W h => Op9.ld_str (.tmp 61) (by kernel_rfl) (by kernel_rfl) W (sq_name h)⟩) hS ?_
  try simp only [Act.put, List.setIfInBounds_toArray, List.set_cons_zero, List.set_cons_succ]
  refine wpAnyH_ready (rs := [12]) (by kernel_rfl) (by simp) ?_
  refine AllReadyH.cons (o := { dst := some 63, op := Op.call { callee := Callee.value (Operand.func 58), args := #[Operand.tmp 58, Operand.tmp 60, Operand.tmp 62], argTypes := #[60, 3, 9] }, type := 4, pos := "desk.go:169", after := #[{ on := 7, ground := Ground.data }, { on := 9, ground := Ground.data }, { on := 11, ground := Ground.data }], guard := none }) rfl (fun K hK => ?_) AllReadyH.nil
  rw [if_pos (by kernel_rfl)]
  go_simp
  rw [← unhide HX]
  refine (unhide CF _ (unhide H1)).mono ?_
  rintro e w2 ⟨rfl, _, b2⟩
  have H2 := hide ((unhide H1).call b2)
  have DD := hide (show De B bd bl bf bc bf bc W w2 from De.of_below ((unhide BB).trans (b2.mono (unhide BB).size)))
  have O := hide (unhide OW w2 (unhide H2))
  have S2 : Sq bd bl bf W.heap.size (stpA x) 84 w2 := sq_of (unhide H2) (by rw [b2.block _ (Array.getElem?_eq_some_iff.1 r1).1]; exact r1)
  clear b2 CF OW
  go_wp2_with fail
  refine hK.out _ _ (S2) (fun hS2 => ?_)
  clear hK K
  try simp only [Act.put, List.setIfInBounds_toArray, List.set_cons_zero, List.set_cons_succ]
  refine wpAnyH_ready (rs := [13]) (by kernel_rfl) (by simp) ?_
  refine AllReadyH.cons (o := { dst := some 64, op := Op.call { callee := Callee.value (Operand.func 56), args := #[Operand.tmp 63], argTypes := #[4] }, type := 9, pos := "desk.go:169", after := #[{ on := 12, ground := Ground.data }, { on := 12, ground := Ground.chain }], guard := none }) rfl (fun K hK => ?_) AllReadyH.nil
  rw [if_pos (by kernel_rfl)]
  go_simp
  refine (unhide FB w2).mono ?_
  rintro e w3 ⟨rfl, e9⟩
  rw [e9]
  clear e9 w3
  go_wp2_with fail
  refine hK.out _ _ (S2) (fun hS3 => ?_)
  clear hK K
  try simp only [Act.put, List.setIfInBounds_toArray, List.set_cons_zero, List.set_cons_succ]
  refine wpAnyH_ready (rs := [14]) (by kernel_rfl) (by simp) ?_
  refine AllReadyH.cons (o := { dst := some 65, op := Op.call { callee := Callee.value (Operand.func 28), args := #[Operand.tmp 51, Operand.tmp 64, Operand.const (Value.slice none 0 0)], argTypes := #[25, 9, 22] }, type := 0, pos := "desk.go:169", after := #[{ on := 0, ground := Ground.data }, { on := 13, ground := Ground.data }, { on := 13, ground := Ground.chain }], guard := none }) rfl (fun K hK => ?_) AllReadyH.nil
  rw [if_pos (by kernel_rfl)]
  go_simp
  refine (unhide O).mono ?_
  rintro e w9 ⟨rfl, h9, f9⟩
  have S9 : Sq bd bl bf W.heap.size (stpA x) 84 w9 := S2.df h9 f9 (unhide H2).row (by decide) (by decide)
  have R := hide (And.intro h9 ((unhide DD).trans (De.of_df f9)))
  clear h9 f9
  go_wp2_with fail
  refine hK.out _ _ (S9) (fun hS9 => ?_)
  clear hK K
  try simp only [Act.put, List.setIfInBounds_toArray, List.set_cons_zero, List.set_cons_succ]
  refine wpAnyH_done (by kernel_rfl) ?_ _
  clear hS hS2 hS9 S9
  go_wp2_with fail
  go_end0
  exact ⟨rfl, unhide R⟩
set_option maxHeartbeats 2000000 in
set_option maxRecDepth 100000 in
theorem ask_disk (h : Dk w B bd bl bf bc S l W) {n : Nat} (hO : S.Ok n) (x : Stp) (h1 : x.name.size ≤ maxLen) (tb : Tabs w) (hF : Fine S.disk) (hlen : l.length + 20000000 ≤ 140737488355328) :
    Calls Tryz.prog 30 #[.pointer (some ⟨bd, 0, none⟩), .string ⟨#[100, 105, 115, 107]⟩, .agg (stpA x)] W fun e w' => e = .returned (.tuple #[]) ∧ Dk w B bd bl bf bc S (l ++ (Txt.printed S.disk ++ Txt.line [Dsk.wEnd])) w' ∧ De B bd bl bf bc bf bc W w' := by
  have hB : Below W.heap.size W (W.alloc (.cells (stpA x) 84)) := (Below.refl _ W).alloc (Nat.le_refl _) _
  have H1 := hide (h.call hB)
  have BB := hide hB
  have c1 := (h.call hB).lif
  have c2 := (h.call hB).lo.ptr
  have c3 := (h.call hB).lo.ptr2
  have CD := hide (h.call hB).lo.fo.dsk
  have z := zero_img.1
  have PR := hide (fun g V (hm : HasImg V g S.disk) (hb : Below w.heap.size w V) => Print_any g S.disk V hm hF (tb.at hb).tab)
  have PL := hide (printed_le hF)
  have OW := hide (fun V (hv : Dk w B bd bl bf bc S l V) => dStr_any ⟨(Txt.printed S.disk).toArray⟩ hv (by rw [mk_size]; have := unhide PL; omega))
  rw [ByteArray.toList_mk] at OW
  have OE := hide (fun V (hv : Dk w B bd bl bf bc S (l ++ Txt.printed S.disk) V) => dWord_any hv Dsk.wEnd (by rw [List.length_append]; show _ + 3 + 10 ≤ _; have := unhide PL; omega))
  rw [List.append_assoc] at OE
  generalize l ++ (Txt.printed S.disk ++ Txt.line [Dsk.wEnd]) = ans at *
  unfold Dsk.wEnd at OE
  generalize Txt.printed S.disk = pr at *
  clear h hO h1 tb hlen hB PL hF
  go_enter Tryz.func30, Tryz.ntmps30
  go_upto_region 11 with fail
  go_wp2_with fail
  refine (unhide CD).mono ?_
  rintro e w2 ⟨⟨ds, rfl, hds⟩, b2⟩
  have H2 := hide ((unhide H1).call b2)
  have B2 := hide ((unhide BB).trans (b2.mono (unhide BB).size))
  have BA := hide ((Boxes.start w2).new ds)
  have s2 := hide (heap_alloc_last w2 (.cells zeroCells 78))
  have HI := hide hds
  have zs := zero_size hds
  have za := hds.all
  have zz := hds.size
  clear b2 CD c1 c2 c3 hds H1 BB
  go_upto_region 12 with (have hx := unhide s2; refine wpList_store_row rfl 78 _ _ rfl w2.heap.size ds rfl rfl 78 zeroCells hx (img_info zz) zs za ?_; clear hx s2)
  try simp only [Act.put]
  generalize (w2.alloc (.cells zeroCells 78)).setRow w2.heap.size ds = X3 at BA ⊢
  have B3 := hide (show Below w2.heap.size w2 X3.drew from (unhide BA).below.drew)
  have H3 := hide ((unhide H2).call (unhide B3))
  have HM := hide (show HasImg X3.drew w2.heap.size S.disk from ((unhide BA).call (Below.refl _ X3).drew).has (g := w2.heap.size) (by simp) (unhide HI))
  have DD3 := hide (show De B bd bl bf bc bf bc W X3.drew from De.of_below ((unhide B2).trans ((unhide B3).mono (unhide B2).size)))
  have PP := hide (unhide PR w2.heap.size X3.drew (unhide HM) (unhide H3).lo.bel)
  clear BA HI zs za zz H2 B2 B3 HM PR z
  refine wp_region_held_drew (S := fun _ => True) (by kernel_rfl) (trivial) (fun hS => ?_)
  refine wpAnyH_take (i := 0) (oi := { dst := some 79, op := Op.move (Operand.tmp 0), type := 25, pos := "desk.go:172", after := #[], guard := none }) (v := .pointer (some ⟨bd, 0, none⟩)) rfl (by kernel_rfl) (by kernel_rfl) (by kernel_rfl) (fun _ _ _ h => h) (Or.inl ⟨by kernel_rfl, fun W h => (by first | kernel_rfl | go_simp)⟩) hS ?_
  try simp only [Act.put, List.setIfInBounds_toArray, List.set_cons_zero, List.set_cons_succ]
  refine wpAnyH_take (i := 1) (oi := { dst := some 80, op := Op.nilCheck (Operand.tmp 79), type := 0, pos := "desk.go:172", after := #[{ on := 0, ground := Ground.data }], guard := none }) (v := .pointer (some ⟨bd, 0, none⟩)) rfl (by kernel_rfl) (by kernel_rfl) (by kernel_rfl) (fun _ _ _ h => h) (Or.inl ⟨by kernel_rfl, fun W h => (by first | kernel_rfl | go_simp)⟩) hS ?_
  try simp only [Act.put, List.setIfInBounds_toArray, List.set_cons_zero, List.set_cons_succ]
  refine wpAnyH_take (i := 2) (oi := { dst := some 81, op := Op.fieldAddr 46 (Operand.tmp 80) 0, type := 0, pos := "desk.go:172", after := #[{ on := 1, ground := Ground.data }], guard := none }) (v := .pointer (some ⟨bd, 0, none⟩)) rfl (by kernel_rfl) (by kernel_rfl) (by kernel_rfl) (fun _ _ _ h => h) (Or.inl ⟨by kernel_rfl, fun W h => (by first | kernel_rfl | go_simp)⟩) hS ?_
  try simp only [Act.put, List.setIfInBounds_toArray, List.set_cons_zero, List.set_cons_succ]
  refine wpAnyH_ready (rs := [3]) (by kernel_rfl) (by simp) ?_
  refine AllReadyH.cons (o := { dst := some 82, op := Op.call { callee := Callee.value (Operand.func 60), args := #[Operand.tmp 6], argTypes := #[108] }, type := 9, pos := "desk.go:172", after := #[], guard := none }) rfl (fun K hK => ?_) AllReadyH.nil
  rw [if_pos (by kernel_rfl)]
  go_simp
  refine (unhide PP).mono ?_
  rintro e w4 ⟨rfl, b4⟩
  have H4 := hide ((unhide H3).call b4)
  have DD := hide ((unhide DD3).trans (De.of_below b4))
  have O := hide (unhide OW w4 (unhide H4))
  clear b4 PP OW
  go_wp2_with fail
  refine hK.out _ _ (trivial) (fun hS2 => ?_)
  clear hK K
  try simp only [Act.put, List.setIfInBounds_toArray, List.set_cons_zero, List.set_cons_succ]
  refine wpAnyH_ready (rs := [4]) (by kernel_rfl) (by simp) ?_
  refine AllReadyH.cons (o := { dst := some 83, op := Op.call { callee := Callee.value (Operand.func 50), args := #[Operand.tmp 81, Operand.tmp 82], argTypes := #[44, 9] }, type := 122, pos := "desk.go:172", after := #[{ on := 2, ground := Ground.data }, { on := 3, ground := Ground.data }, { on := 3, ground := Ground.chain }], guard := none }) rfl (fun K hK => ?_) AllReadyH.nil
  rw [if_pos (by kernel_rfl)]
  go_simp
  refine (unhide O).mono ?_
  rintro e w5 ⟨rfl, h5, f5⟩
  have H5 := hide h5
  have D5 := hide ((unhide DD).trans (De.of_df f5))
  clear h5 f5 O DD
  go_wp2_with fail
  refine hK.out _ _ (trivial) (fun hS3 => ?_)
  clear hK K
  try simp only [Act.put, List.setIfInBounds_toArray, List.set_cons_zero, List.set_cons_succ]
  refine wpAnyH_done (by kernel_rfl) ?_ _
  clear hS hS2 hS3
  have O2 := hide (unhide OE w5 (unhide H5))
  clear OE
  go_wp2_with fail
  refine (unhide O2).mono ?_
  rintro e w9 ⟨rfl, h9, f9⟩
  have R := hide (And.intro h9 ((unhide D5).trans (De.of_df f9)))
  clear h9 f9 O2
  go_wp2_with fail
  go_end0
  exact ⟨rfl, unhide R⟩
set_option maxHeartbeats 2000000 in
set_option maxRecDepth 100000 in
theorem ask_dirty (h : Dk w B bd bl bf bc S l W) {n : Nat} (hO : S.Ok n) (x : Stp) (h1 : x.name.size ≤ maxLen) (tb : Tabs w) (hlen : l.length + 1000 ≤ 140737488355328) :
    Calls Tryz.prog 30 #[.pointer (some ⟨bd, 0, none⟩), .string ⟨#[100, 105, 114, 116, 121]⟩, .agg (stpA x)] W fun e w' => e = .returned (.tuple #[]) ∧ Dk w B bd bl bf bc S (l ++ Txt.line (Dsk.wDirty :: (Dsk.dirtyTo S 14).map Lib.itoa)) w' ∧ De B bd bl bf bc bf bc W w' := by
  have hB : Below W.heap.size W (W.alloc (.cells (stpA x) 84)) := (Below.refl _ W).alloc (Nat.le_refl _) _
  have H1 := hide (h.call hB)
  have BB := hide hB
  have CD := hide (dDirty_any (unhide H1) tb)
  have DL := hide (dirty_len S 14)
  have OW := hide (fun V (hv : Dk w B bd bl bf bc S l V) v (ho : V.ownsRow (W.alloc (.cells (stpA x) 84)).heap.size 9 1 v (Dsk.dirtyTo S 14).length (strs (decs (Dsk.dirtyTo S 14)))) => dSay_w hv Dsk.wDirty ((Dsk.dirtyTo S 14).map Lib.itoa) (decs (Dsk.dirtyTo S 14)) (decs_list _) v (by rw [show (decs (Dsk.dirtyTo S 14)).length = (Dsk.dirtyTo S 14).length by simp [decs]]; exact ho) (by rw [show (decs (Dsk.dirtyTo S 14)).length = (Dsk.dirtyTo S 14).length by simp [decs]]; have := (unhide DL).1; omega) (by
    have := line_len Dsk.wDirty ((Dsk.dirtyTo S 14).map Lib.itoa) 21 (fun y hy => by obtain ⟨z, hz, rfl⟩ := List.mem_map.1 hy; have := (unhide DL).2 z hz; exact itoa_len ⟨by omega, by omega⟩)
    have h4 := (unhide DL).1
    rw [List.length_map, show Dsk.wDirty.length = 5 from rfl] at this
    omega))
  unfold Dsk.wDirty at OW ⊢
  generalize Txt.line _ = ans at *
  generalize Dsk.dirtyTo S 14 = dts at *
  clear h hO h1 tb hlen hB DL
  go_enter Tryz.func30, Tryz.ntmps30
  go_wp2_with fail
  refine (unhide CD).mono ?_
  rintro e w2 ⟨v, rfl, ho, b2⟩
  have H2 := hide ((unhide H1).call b2)
  have DD := hide (show De B bd bl bf bc bf bc W w2 from De.of_below ((unhide BB).trans (b2.mono (unhide BB).size)))
  have O := hide (unhide OW w2 (unhide H2) v ho)
  clear b2 CD OW ho H1 BB
  go_wp2_with fail
  refine (unhide O).mono ?_
  rintro e w9 ⟨rfl, h9, f9⟩
  have R := hide (And.intro h9 ((unhide DD).trans (De.of_df f9)))
  clear h9 f9
  go_wp2_with fail
  go_end0
  exact ⟨rfl, unhide R⟩
set_option maxHeartbeats 2000000 in
set_option maxRecDepth 100000 in
theorem ask_lost (h : Dk w B bd bl bf bc S l W) {n : Nat} (hO : S.Ok n) (x : Stp) (h1 : x.name.size ≤ maxLen) (tb : Tabs w) (hN : S.Neat) (hn : n ≤ 1000000) (hlen : l.length + 1000 ≤ 140737488355328) :
    Calls Tryz.prog 30 #[.pointer (some ⟨bd, 0, none⟩), .string ⟨#[108, 111, 115, 116]⟩, .agg (stpA x)] W fun e w' => e = .returned (.tuple #[]) ∧ Dk w B bd bl bf bc S (l ++ Txt.line (Dsk.wLost :: [S.cr, S.lf, S.lc, S.ld].map Lib.itoa)) w' ∧ De B bd bl bf bc bf bc W w' := by
  have hB : Below W.heap.size W (W.alloc (.cells (stpA x) 84)) := (Below.refl _ W).alloc (Nat.le_refl _) _
  have H1 := hide (h.call hB)
  have BB := hide hB
  have c1 := (h.call hB).lif
  have CL := hide (lLost_any (unhide H1).lo)
  have RR := hide (show ∀ y ∈ [S.cr, S.lf, S.lc, S.ld], I64 y from fun y hy => by
    have := hO.cr0; have := hO.crn; have := hN.lf; have := hN.lc; have := hN.ld
    simp only [List.mem_cons, List.not_mem_nil, or_false] at hy
    rcases hy with rfl | rfl | rfl | rfl <;> exact ⟨by omega, by omega⟩)
  have OW := hide (fun V (hv : Dk w B bd bl bf bc S l V) B0 v (ho : V.ownsRow B0 9 1 v [S.cr, S.lf, S.lc, S.ld].length (strs (decs [S.cr, S.lf, S.lc, S.ld]))) => dSay_w hv Dsk.wLost ([S.cr, S.lf, S.lc, S.ld].map Lib.itoa) (decs [S.cr, S.lf, S.lc, S.ld]) (decs_list _) v ho (by simp [decs]) (by
    have := line_len Dsk.wLost ([S.cr, S.lf, S.lc, S.ld].map Lib.itoa) 21 (fun y hy => by obtain ⟨z, hz, rfl⟩ := List.mem_map.1 hy; exact itoa_len (unhide RR z hz))
    rw [List.length_map, show Dsk.wLost.length = 4 from rfl, show [S.cr, S.lf, S.lc, S.ld].length = 4 from rfl] at this
    omega))
  have CC := hide (fun V (hv : Dk w B bd bl bf bc S l V) => lCrashes_any hv.lo)
  have DC := hide (fun V B0 v (h0 : V.ownsRow B0 3 1 v [S.cr, S.lf, S.lc, S.ld].length (ints [S.cr, S.lf, S.lc, S.ld])) (hB0 : B0 ≤ V.heap.size) (hb : Below w.heap.size w V) => decimals_any [S.cr, S.lf, S.lc, S.ld] (by simp) (unhide RR) v V h0 hB0 (tb.at hb))
  unfold Dsk.wLost at OW ⊢
  generalize Txt.line _ = ans at *
  have hf : ∀ a b c : Int, lostA a b c = #[.int .i64 a, .int .i64 b, .int .i64 c] := fun _ _ _ => rfl
  rw [hf] at CL
  generalize S.cr = cr at *
  generalize S.lf = lf at *
  generalize S.lc = lc at *
  generalize S.ld = ld at *
  clear h hO h1 tb hlen hB RR hN hn hf
  go_enter Tryz.func30, Tryz.ntmps30
  go_upto_region 17 with fail
  go_wp2_with fail
  refine (unhide CL).mono ?_
  rintro e w2 ⟨rfl, b2⟩
  have H2 := hide ((unhide H1).call b2)
  have B2 := hide ((unhide BB).trans (b2.mono (unhide BB).size))
  have s2 : (w2.alloc (.cells #[.int .i64 0, .int .i64 0, .int .i64 0] 63)).heap[w2.heap.size]? = some (.cells #[.int .i64 0, .int .i64 0, .int .i64 0] 63) := heap_alloc_last _ _
  have BX := hide (below_setRow ((Below.refl _ w2).alloc (Nat.le_refl _) (.cells #[.int .i64 0, .int .i64 0, .int .i64 0] 63)) (Nat.le_refl _) #[.int .i64 lf, .int .i64 lc, .int .i64 ld])
  have RX := hide (show ((w2.alloc (.cells #[.int .i64 0, .int .i64 0, .int .i64 0] 63)).setRow w2.heap.size #[.int .i64 lf, .int .i64 lc, .int .i64 ld]).heap[w2.heap.size]? = some (.cells #[.int .i64 lf, .int .i64 lc, .int .i64 ld] 63) from setRow_heap _ _ _ _ _ _ s2)
  have s3 := hide s2
  clear b2 CL c1 H1 BB s2
  go_upto_region 18 with (have hx := unhide s3; refine wpList_store_row rfl 63 _ _ rfl w2.heap.size #[.int .i64 lf, .int .i64 lc, .int .i64 ld] rfl rfl 63 _ hx lost_info rfl (lost_all lf lc ld) ?_; clear hx s3)
  try simp only [Act.put]
  generalize (w2.alloc (.cells #[.int .i64 0, .int .i64 0, .int .i64 0] 63)).setRow w2.heap.size #[.int .i64 lf, .int .i64 lc, .int .i64 ld] = X3 at BX RX ⊢
  have H3 := hide ((unhide H2).call (unhide BX).drew)
  have r3 : X3.drew.heap[w2.heap.size]? = some (.cells #[.int .i64 lf, .int .i64 lc, .int .i64 ld] 63) := unhide RX
  have D3 := hide (show De B bd bl bf bc bf bc W X3.drew from De.of_below ((unhide B2).trans ((unhide BX).drew.mono (unhide B2).size)))
  generalize hg7 : w2.heap.size = g7 at r3 ⊢
  clear H2 B2 BX RX hg7
  refine wp_region_held_drew (S := fun V => Sq bd bl bf g7 #[.int .i64 lf, .int .i64 lc, .int .i64 ld] 63 V) (by kernel_rfl) (sq_of (unhide H3) r3) (fun hS => ?_)
  refine wpAnyH_take (i := 0) (oi := { dst := some 99, op := Op.move (Operand.tmp 0), type := 25, pos := "desk.go:178", after := #[], guard := none }) (v := .pointer (some ⟨bd, 0, none⟩)) rfl (by kernel_rfl) (by kernel_rfl) (by kernel_rfl) (fun _ _ _ h => h) (Or.inl ⟨by kernel_rfl, fun W h => (by first | kernel_rfl | go_simp)⟩) hS ?_
  try simp only [Act.put, List.setIfInBounds_toArray, List.set_cons_zero, List.set_cons_succ]
  refine wpAnyH_take (i := 1) (oi := { dst := some 100, op := Op.move (Operand.tmp 0), type := 25, pos := "desk.go:178", after := #[], guard := none }) (v := .pointer (some ⟨bd, 0, none⟩)) rfl (by kernel_rfl) (by kernel_rfl) (by kernel_rfl) (fun _ _ _ h => h) (Or.inl ⟨by kernel_rfl, fun W h => (by first | kernel_rfl | go_simp)⟩) hS ?_
  try simp only [Act.put, List.setIfInBounds_toArray, List.set_cons_zero, List.set_cons_succ]
  refine wpAnyH_take (i := 2) (oi := { dst := some 101, op := Op.nilCheck (Operand.tmp 100), type := 0, pos := "desk.go:178", after := #[{ on := 1, ground := Ground.data }], guard := none }) (v := .pointer (some ⟨bd, 0, none⟩)) rfl (by kernel_rfl) (by kernel_rfl) (by kernel_rfl) (fun _ _ _ h => h) (Or.inl ⟨by kernel_rfl, fun W h => (by first | kernel_rfl | go_simp)⟩) hS ?_
  try simp only [Act.put, List.setIfInBounds_toArray, List.set_cons_zero, List.set_cons_succ]
  refine wpAnyH_take (i := 3) (oi := { dst := some 102, op := Op.fieldAddr 46 (Operand.tmp 101) 1, type := 0, pos := "desk.go:178", after := #[{ on := 2, ground := Ground.data }], guard := none }) (v := .pointer (some ⟨bd, 2, none⟩)) rfl (by kernel_rfl) (by kernel_rfl) (by kernel_rfl) (fun _ _ _ h => h) (Or.inl ⟨by kernel_rfl, fun W h => (by first | kernel_rfl | go_simp)⟩) hS ?_
  try simp only [Act.put, List.setIfInBounds_toArray, List.set_cons_zero, List.set_cons_succ]
  refine wpAnyH_take (i := 4) (oi := { dst := some 103, op := Op.load 39 (Operand.tmp 102), type := 39, pos := "desk.go:178", after := #[{ on := 3, ground := Ground.data }], guard := none }) (v := .pointer (some ⟨bl, 0, none⟩)) rfl (by kernel_rfl) (by kernel_rfl) (by kernel_rfl) (fun _ _ _ h => h) (Or.inl ⟨by kernel_rfl, fun W h => Op9.ld_life (.tmp 102) (by kernel_rfl) (by kernel_rfl) W (h.p0)⟩) hS ?_
  try simp only [Act.put, List.setIfInBounds_toArray, List.set_cons_zero, List.set_cons_succ]
  refine wpAnyH_take (i := 6) (oi := { dst := some 105, op := Op.fieldAddr 63 (Operand.tmp 7) 0, type := 0, pos := "desk.go:178", after := #[], guard := none }) (v := .pointer (some ⟨g7, 0, none⟩)) rfl (by kernel_rfl) (by kernel_rfl) (by kernel_rfl) (fun _ _ _ h => h) (Or.inl ⟨by kernel_rfl, fun W h => (by first | kernel_rfl | go_simp)⟩) hS ?_
  try simp only [Act.put, List.setIfInBounds_toArray, List.set_cons_zero, List.set_cons_succ]
  refine wpAnyH_take (i := 7) (oi := { dst := some 106, op := Op.load 3 (Operand.tmp 105), type := 3, pos := "desk.go:178", after := #[{ on := 6, ground := Ground.data }], guard := none }) (v := .int .i64 lf) rfl (by kernel_rfl) (by kernel_rfl) (by kernel_rfl) (fun _ _ _ h => h) (Or.inl ⟨by kernel_rfl, fun W h => Op9.ld_int (.tmp 105) (by kernel_rfl) (by kernel_rfl) W (sq_l0 h)⟩) hS ?_
  try simp only [Act.put, List.setIfInBounds_toArray, List.set_cons_zero, List.set_cons_succ]
  refine wpAnyH_take (i := 8) (oi := { dst := some 107, op := Op.fieldAddr 63 (Operand.tmp 7) 1, type := 0, pos := "desk.go:178", after := #[], guard := none }) (v := .pointer (some ⟨g7, 1, none⟩)) rfl (by kernel_rfl) (by kernel_rfl) (by kernel_rfl) (fun _ _ _ h => h) (Or.inl ⟨by kernel_rfl, fun W h => (by first | kernel_rfl | go_simp)⟩) hS ?_
  try simp only [Act.put, List.setIfInBounds_toArray, List.set_cons_zero, List.set_cons_succ]
  refine wpAnyH_take (i := 9) (oi := { dst := some 108, op := Op.load 3 (Operand.tmp 107), type := 3, pos := "desk.go:178", after := #[{ on := 8, ground := Ground.data }], guard := none }) (v := .int .i64 lc) rfl (by kernel_rfl) (by kernel_rfl) (by kernel_rfl) (fun _ _ _ h => h) (Or.inl ⟨by kernel_rfl, fun W h => Op9.ld_int (.tmp 107) (by kernel_rfl) (by kernel_rfl) W (sq_l1 h)⟩) hS ?_
  try simp only [Act.put, List.setIfInBounds_toArray, List.set_cons_zero, List.set_cons_succ]
  refine wpAnyH_take (i := 10) (oi := { dst := some 109, op := Op.fieldAddr 63 (Operand.tmp 7) 2, type := 0, pos := "desk.go:178", after := #[], guard := none }) (v := .pointer (some ⟨g7, 2, none⟩)) rfl (by kernel_rfl) (by kernel_rfl) (by kernel_rfl) (fun _ _ _ h => h) (Or.inl ⟨by kernel_rfl, fun W h => (by first | kernel_rfl | go_simp)⟩) hS ?_
  try simp only [Act.put, List.setIfInBounds_toArray, List.set_cons_zero, List.set_cons_succ]
  refine wpAnyH_take (i := 11) (oi := { dst := some 110, op := Op.load 3 (Operand.tmp 109), type := 3, pos := "desk.go:178", after := #[{ on := 10, ground := Ground.data }], guard := none }) (v := .int .i64 ld) rfl (by kernel_rfl) (by kernel_rfl) (by kernel_rfl) (fun _ _ _ h => h) (Or.inl ⟨by kernel_rfl, fun W h => Op9.ld_int (.tmp 109) (by kernel_rfl) (by kernel_rfl) W (sq_l2 h)⟩) hS ?_
  try simp only [Act.put, List.setIfInBounds_toArray, List.set_cons_zero, List.set_cons_succ]
  refine wpAnyH_ready (rs := [5]) (by kernel_rfl) (by simp) ?_
  refine AllReadyH.cons (o := { dst := some 104, op := Op.call { callee := Callee.value (Operand.func 64), args := #[Operand.tmp 103], argTypes := #[39] }, type := 3, pos := "desk.go:178", after := #[{ on := 4, ground := Ground.data }], guard := none }) rfl (fun K hK => ?_) AllReadyH.nil
  rw [if_pos (by kernel_rfl)]
  go_simp
  refine (unhide CC _ (unhide H3)).mono ?_
  rintro e w3 ⟨rfl, e9⟩
  rw [e9]
  clear e9 w3 CC
  go_wp2_with fail
  refine hK.out _ _ (sq_of (unhide H3) r3) (fun hS2 => ?_)
  clear hK K
  try simp only [Act.put, List.setIfInBounds_toArray, List.set_cons_zero, List.set_cons_succ]
  refine wpAnyH_ready (rs := [12]) (by kernel_rfl) (by simp) ?_
  refine AllReadyH.cons (o := { dst := some 111, op := Op.buildSlice 157 4 #[(0, Operand.tmp 104), (1, Operand.tmp 106), (2, Operand.tmp 108), (3, Operand.tmp 110)], type := 157, pos := "desk.go:178", after := #[{ on := 5, ground := Ground.data }, { on := 7, ground := Ground.data }, { on := 9, ground := Ground.data }, { on := 11, ground := Ground.data }], guard := none }) rfl (fun K hK => ?_) AllReadyH.nil
  rw [if_pos (by kernel_rfl)]
  go_simp
  have B4 := hide (show Below X3.drew.heap.size X3.drew (X3.drew.alloc (.cells #[.int .i64 cr, .int .i64 lf, .int .i64 lc, .int .i64 ld] 3)) from (Below.refl _ _).alloc (Nat.le_refl _) _)
  have O4 := hide (show (X3.drew.alloc (.cells #[.int .i64 cr, .int .i64 lf, .int .i64 lc, .int .i64 ld] 3)).ownsRow 0 3 1 (.slice (some ⟨X3.drew.heap.size, 0, none⟩) 4 4) [cr, lf, lc, ld].length (ints [cr, lf, lc, ld]) from ⟨rfl, .inr ⟨X3.drew.heap.size, 4, _, rfl, Nat.zero_le _, heap_alloc_last _ _, Nat.le_refl _, by unfold maxLen; decide, rfl, rfl⟩⟩)
  have S4 : Sq bd bl bf g7 #[.int .i64 lf, .int .i64 lc, .int .i64 ld] 63 (X3.drew.alloc (.cells #[.int .i64 cr, .int .i64 lf, .int .i64 lc, .int .i64 ld] 3)) := sq_of ((unhide H3).call (unhide B4)) (by rw [(unhide B4).block _ (Array.getElem?_eq_some_iff.1 r3).1]; exact r3)
  have H4 := hide ((unhide H3).call (unhide B4))
  have D4 := hide ((unhide D3).trans (De.of_below (unhide B4)))
  have C4 := hide (unhide DC _ 0 _ (unhide O4) (Nat.zero_le _) (unhide H4).lo.bel)
  refine hK.out _ _ (S4) (fun hS4 => ?_)
  clear hK K
  try simp only [Act.put, List.setIfInBounds_toArray, List.set_cons_zero, List.set_cons_succ]
  refine wpAnyH_ready (rs := [13]) (by kernel_rfl) (by simp) ?_
  refine AllReadyH.cons (o := { dst := some 112, op := Op.call { callee := Callee.value (Operand.func 63), args := #[Operand.tmp 111], argTypes := #[157] }, type := 22, pos := "desk.go:178", after := #[{ on := 12, ground := Ground.data }, { on := 5, ground := Ground.chain }], guard := none }) rfl (fun K hK => ?_) AllReadyH.nil
  rw [if_pos (by kernel_rfl)]
  go_simp
  refine (unhide C4).mono ?_
  rintro e w5 ⟨v5, rfl, ho5, b5⟩
  have S5 : Sq bd bl bf g7 #[.int .i64 lf, .int .i64 lc, .int .i64 ld] 63 w5 := sq_of ((unhide H4).call b5) (by rw [b5.block _ (Array.getElem?_eq_some_iff.1 S4.row).1]; exact S4.row)
  have H5 := hide ((unhide H4).call b5)
  have DD := hide ((unhide D4).trans (De.of_below b5))
  have O := hide (unhide OW w5 (unhide H5) _ v5 ho5)
  clear ho5 b5 C4 DC OW O4
  go_wp2_with fail
  refine hK.out _ _ (S5) (fun hS5 => ?_)
  clear hK K
  try simp only [Act.put, List.setIfInBounds_toArray, List.set_cons_zero, List.set_cons_succ]
  refine wpAnyH_ready (rs := [14]) (by kernel_rfl) (by simp) ?_
  refine AllReadyH.cons (o := { dst := some 113, op := Op.call { callee := Callee.value (Operand.func 28), args := #[Operand.tmp 99, Operand.const (Value.string { data := #[108, 111, 115, 116] }), Operand.tmp 112], argTypes := #[25, 9, 22] }, type := 0, pos := "desk.go:178", after := #[{ on := 0, ground := Ground.data }, { on := 13, ground := Ground.data }, { on := 13, ground := Ground.chain }], guard := none }) rfl (fun K hK => ?_) AllReadyH.nil
  rw [if_pos (by kernel_rfl)]
  go_simp
  refine (unhide O).mono ?_
  rintro e w9 ⟨rfl, h9, f9⟩
  have S9 : Sq bd bl bf g7 #[.int .i64 lf, .int .i64 lc, .int .i64 ld] 63 w9 := S5.df h9 f9 (unhide H5).row (by decide) (by decide)
  have R := hide (And.intro h9 ((unhide DD).trans (De.of_df f9)))
  clear h9 f9 O
  go_wp2_with fail
  refine hK.out _ _ (S9) (fun hS9 => ?_)
  clear hK K
  try simp only [Act.put, List.setIfInBounds_toArray, List.set_cons_zero, List.set_cons_succ]
  refine wpAnyH_done (by kernel_rfl) ?_ _
  clear hS hS2 hS4 hS5 hS9 S4 S5 S9
  go_wp2_with fail
  go_end0
  exact ⟨rfl, unhide R⟩
end
end Go.Proofs.YtfpfpnhpbnnmfadGreatDoor
