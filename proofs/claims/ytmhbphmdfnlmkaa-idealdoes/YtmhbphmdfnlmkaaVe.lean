/-
  slices.Insert whole; the walk of slices.Delete.
-/
import Derived.Test.YtmhbphmdfnlmkaaVd
namespace Go.Proofs.Ytmhbphmdfnlmkaa
open Go.RowKit
namespace Idl
theorem splice_shift {L xs vs : List Value} {n i : Nat} (hi : i ≤ n) (hL : (n + 1) * 2 ≤ L.length) (hx : L.take (n * 2) = xs) (hv : vs.length = 2) :
    let L1 := L.take ((i + 1) * 2) ++ xs.drop (i * 2) ++ L.drop ((i + 1) * 2 + (xs.drop (i * 2)).length)
    (L1.take (i * 2) ++ vs ++ L1.drop (i * 2 + vs.length)).take ((n + 1) * 2) = xs.take (i * 2) ++ vs ++ xs.drop (i * 2) ∧ (L1.take (i * 2) ++ vs ++ L1.drop (i * 2 + vs.length)).length = L.length := by
  have hxl : xs.length = n * 2 := by rw [← hx, List.length_take]; omega
  have hdl : (xs.drop (i * 2)).length = (n - i) * 2 := by rw [List.length_drop, hxl]; omega
  have h1 : L.take (i * 2) = xs.take (i * 2) := by rw [← hx, List.take_take, Nat.min_eq_left (by omega)]
  have hA : (L.take ((i + 1) * 2)).length = (i + 1) * 2 := by rw [List.length_take]; omega
  simp only
  have h2 : (L.take ((i + 1) * 2) ++ xs.drop (i * 2) ++ L.drop ((i + 1) * 2 + (xs.drop (i * 2)).length)).take (i * 2) = xs.take (i * 2) := by
    rw [List.append_assoc, List.take_append_of_le_length (by omega), List.take_take, Nat.min_eq_left (by omega), h1]
  have h3 : (L.take ((i + 1) * 2) ++ xs.drop (i * 2) ++ L.drop ((i + 1) * 2 + (xs.drop (i * 2)).length)).drop (i * 2 + vs.length) = xs.drop (i * 2) ++ L.drop ((i + 1) * 2 + (xs.drop (i * 2)).length) := by
    rw [hv, List.append_assoc, List.drop_left' (by rw [hA]; omega)]
  rw [h2, h3]
  constructor
  · rw [← List.append_assoc, List.take_left' (by simp only [List.length_append, List.length_take, hxl, hv, hdl]; omega)]
  · simp only [List.length_append, List.length_take, List.length_drop, hxl, hv]; omega
theorem splice_grow {L xs vs : List Value} {n i : Nat} (hi : i ≤ n) (hL : (n + 1) * 2 ≤ L.length) (hx : L.take (i * 2) = xs.take (i * 2)) (hxl : xs.length = n * 2) (hv : vs.length = 2) :
    let L1 := L.take (i * 2) ++ vs ++ L.drop (i * 2 + vs.length)
    (L1.take ((i + 1) * 2) ++ xs.drop (i * 2) ++ L1.drop ((i + 1) * 2 + (xs.drop (i * 2)).length)).take ((n + 1) * 2) = xs.take (i * 2) ++ vs ++ xs.drop (i * 2) ∧
    (L1.take ((i + 1) * 2) ++ xs.drop (i * 2) ++ L1.drop ((i + 1) * 2 + (xs.drop (i * 2)).length)).length = L.length ∧ L1.length = L.length := by
  have hdl : (xs.drop (i * 2)).length = (n - i) * 2 := by rw [List.length_drop, hxl]; omega
  have hT : (xs.take (i * 2)).length = i * 2 := by rw [List.length_take]; omega
  simp only
  rw [hx]
  have h2 : (xs.take (i * 2) ++ vs ++ L.drop (i * 2 + vs.length)).take ((i + 1) * 2) = xs.take (i * 2) ++ vs := by
    rw [List.take_left' (by simp only [List.length_append, hT, hv]; omega)]
  have hl1 : (xs.take (i * 2) ++ vs ++ L.drop (i * 2 + vs.length)).length = L.length := by
    simp only [List.length_append, hT, hv, List.length_drop]; omega
  rw [h2]
  refine ⟨?_, ?_, hl1⟩
  · rw [List.take_left' (by simp only [List.length_append, hT, hv, hdl]; omega)]
  · simp only [List.length_append, hT, hv, hdl, List.length_drop]; omega
theorem Insert_any {w : World} {sv : Value} {n i : Nat} {xs : List Value} (h : w.ownsRow 0 107 2 sv n xs) (hi : i ≤ n) (hn : n ≤ 2000) (h1x : ∀ v ∈ xs, v.oneCell' = true) (vb : Nat) (vs : List Value) (hvl : vs.length = 2)
    (hvb : w.heap[vb]? = some (.cells vs.toArray 107 (0, 0))) (hne : sv.ownBlock ≠ some vb) (hv1 : ∀ v ∈ vs, v.oneCell' = true) :
    Calls Try.prog 78 #[sv, .int .i64 i, .slice (some ⟨vb, 0, none⟩) 1 1] w fun e w' => ∃ sv', e = .returned sv' ∧ Inserted w w' sv sv' (n + 1) (xs.take (i * 2) ++ vs ++ xs.drop (i * 2)) := by
  have hvc : ∀ j v, vs[j]? = some v → w.cell? ⟨vb, j, none⟩ = some v := fun j v hj => by rw [cell_of_row w vb j _ _ _ hvb]; simpa using hj
  by_cases hend : i = n
  · subst hend
    rw [List.take_of_length_le (by rw [h.1]; exact Nat.le_refl _), List.drop_eq_nil_of_le (by rw [h.1]; exact Nat.le_refl _), List.append_nil]
    exact Insert_end h hn vb vs hvl hvc hv1
  have hlt : i < n := by omega
  rcases h.2 with ⟨rfl, rfl⟩ | ⟨g, cap, cur, rfl, hb, hg, hnc, hcm, hcs, htake⟩
  · omega
  · have hne' : vb ≠ g := fun e => hne (by rw [e]; rfl)
    have hbl : g < w.heap.size := (Array.getElem?_eq_some_iff.1 hg).1
    by_cases hroom : n + 1 ≤ cap
    · refine (Insert_shift g n cap i vb cur xs vs hg hcs htake hlt hroom hn hne' hvb hvl h1x hv1).mono ?_
      rintro e w' ⟨rfl, rfl⟩
      refine ⟨_, rfl, ?_, grownBy_setCells _ _ _ _ _ (grownBy_setCells _ _ _ _ _ ⟨rfl, rfl, rfl, Nat.le_refl _, fun _ _ _ => rfl⟩), .inl rfl⟩
      have hx0 := splice_shift (L := cur.toList) (xs := xs) (vs := vs) (n := n) (i := i) hi (by rw [Array.length_toList]; omega) htake hvl
      have hdl : (xs.drop (i * 2)).length = (n - i) * 2 := by rw [List.length_drop, h.1]; omega
      have hg1 := row_setCells g 107 (xs.drop (i * 2)) ((i + 1) * 2) w.drew cur hg (by rw [hdl]; omega)
      have hg2 := row_setCells g 107 vs (i * 2) _ _ hg1 (by simp [hdl]; omega)
      simp only at hx0
      refine ⟨by simp only [List.length_append, List.length_take, List.length_drop, h.1, hvl]; omega, .inr ⟨g, cap, _, rfl, hb, hg2, hroom, hcm, ?_, ?_⟩⟩
      · rw [List.size_toArray]
        simp only
        rw [hx0.2, Array.length_toList]; exact hcs
      · simp only
        exact hx0.1
    · obtain rfl : cap = n := by omega
      refine (Insert_grow g cap i vb cur xs vs hg hcs htake hlt hn hvb hvl h1x hv1).mono ?_
      rintro e w' ⟨G, ROW, hG1, hG2, hR1, hR2, rfl, rfl⟩
      have hN : ((w.alloc (.cells ROW 107)).drew).heap[w.heap.size]? = some (.cells ROW 107 (0, 0)) := heap_alloc_new w _
      have hdl : (xs.drop (i * 2)).length = (cap - i) * 2 := by rw [List.length_drop, h.1]; omega
      have hx0 := splice_grow (L := ROW.toList) (xs := xs) (vs := vs) (n := cap) (i := i) hi (by rw [Array.length_toList]; omega) hR2 h.1 hvl
      simp only at hx0
      have hN1 := row_setCells w.heap.size 107 vs (i * 2) ((w.alloc (.cells ROW 107)).drew) ROW hN (by rw [hR1, hvl]; omega)
      have hN2 := row_setCells w.heap.size 107 (xs.drop (i * 2)) ((i + 1) * 2) (((w.alloc (.cells ROW 107)).drew.setCells w.heap.size (i * 2) vs).drew) _ hN1 (by rw [hdl, List.size_toArray, hx0.2.2, Array.length_toList, hR1]; omega)
      refine ⟨_, rfl, ⟨by simp only [List.length_append, List.length_take, List.length_drop, h.1, hvl]; omega, .inr ⟨w.heap.size, G, _, rfl, Nat.zero_le _, hN2, hG1, hG2, ?_, ?_⟩⟩, ?_, .inr rfl⟩
      · rw [List.size_toArray]
        simp only
        rw [hx0.2.1, Array.length_toList]; exact hR1
      · simp only
        exact hx0.1
      · obtain ⟨a1, a2, a3, a4⟩ := frame_setCells w.heap.size vs (i * 2) ((w.alloc (.cells ROW 107)).drew)
        obtain ⟨b1, b2, b3, b4⟩ := frame_setCells w.heap.size (xs.drop (i * 2)) ((i + 1) * 2) (((w.alloc (.cells ROW 107)).drew.setCells w.heap.size (i * 2) vs).drew)
        refine ⟨b1.trans a1, b2.trans a2, b3.trans a3, ?_, fun k hk _ => ?_⟩
        · rw [b4]
          show w.heap.size ≤ ((w.alloc (.cells ROW 107)).drew.setCells w.heap.size (i * 2) vs).heap.size
          rw [a4]
          show w.heap.size ≤ (w.alloc (.cells ROW 107)).heap.size
          simp
        · rw [other_setCells _ _ _ _ k (by omega)]
          show ((w.alloc (.cells ROW 107)).drew.setCells w.heap.size (i * 2) vs).heap[k]? = _
          rw [other_setCells _ _ _ _ k (by omega)]
          exact heap_alloc_old w _ hk
theorem splice_del {L xs : List Value} {n i : Nat} (z : List Value) (hi : i ≤ n) (hL : (n + 1) * 2 ≤ L.length) (hx : L.take ((n + 1) * 2) = xs) (hz : z.length = 2) :
    let L1 := L.take (i * 2) ++ xs.drop ((i + 1) * 2) ++ L.drop (i * 2 + (xs.drop ((i + 1) * 2)).length)
    (L1.take (n * 2) ++ z ++ L1.drop (n * 2 + z.length)).take (n * 2) = xs.take (i * 2) ++ xs.drop ((i + 1) * 2) ∧ (L1.take (n * 2) ++ z ++ L1.drop (n * 2 + z.length)).length = L.length ∧ L1.length = L.length := by
  have hxl : xs.length = (n + 1) * 2 := by rw [← hx, List.length_take]; omega
  have hdl : (xs.drop ((i + 1) * 2)).length = (n - i) * 2 := by rw [List.length_drop, hxl]; omega
  have h1 : L.take (i * 2) = xs.take (i * 2) := by rw [← hx, List.take_take, Nat.min_eq_left (by omega)]
  have hT : (xs.take (i * 2)).length = i * 2 := by rw [List.length_take]; omega
  simp only
  rw [h1]
  have h2 : (xs.take (i * 2) ++ xs.drop ((i + 1) * 2) ++ L.drop (i * 2 + (xs.drop ((i + 1) * 2)).length)).take (n * 2) = xs.take (i * 2) ++ xs.drop ((i + 1) * 2) :=
    List.take_left' (by simp only [List.length_append, hT, hdl]; omega)
  have hl1 : (xs.take (i * 2) ++ xs.drop ((i + 1) * 2) ++ L.drop (i * 2 + (xs.drop ((i + 1) * 2)).length)).length = L.length := by
    simp only [List.length_append, hT, hdl, List.length_drop]; omega
  rw [h2]
  refine ⟨?_, ?_, hl1⟩
  · rw [List.append_assoc, List.take_left' (by simp only [List.length_append, hT, hdl]; omega)]
  · rw [List.length_append, List.length_drop, hl1, hz]
    simp only [List.length_append, hT, hdl, hz]; omega
def zents : List Value := [.string ⟨#[]⟩, .pointer none]
theorem run_clear_one (W : World) (ty : TypeId) (g o c : Nat) (cur : Array Value) (hg : W.heap[g]? = some (.cells cur 107 (0, 0))) (ho : o + 2 ≤ cur.size) :
    (Builtin.clear_ #[86] ty #[.slice (some ⟨g, o, none⟩) 1 c]).run Try.prog W = .ok (.tuple #[]) (W.setCells g o zents) := by
  have hst := run_storeCells_cells (P := Try.prog) g o zents 0 W (fun j hj => by rw [cell_of_row W g _ _ _ _ hg, Array.getElem?_eq_getElem (by have : j < 2 := hj; omega)]; rfl) (fun j _ => by simp [World.frozen?, hg]) (fun v hv => by
    rcases List.mem_cons.1 hv with rfl | hv
    · rfl
    · rcases List.mem_cons.1 hv with rfl | hv
      · rfl
      · cases hv)
  have hzc : (Builtin.zeroCells (Value.agg #[.string ⟨#[]⟩, .pointer none]).cells 1).toList = zents := by kernel_rfl
  rw [Nat.add_zero] at hst
  simp [Builtin.clear_, run_underlying Try.underlying86, Try.zeroValue107, hzc, hst]
set_option maxHeartbeats 2000000 in
set_option maxRecDepth 100000 in
theorem Delete_any {w : World} (g n cap i : Nat) (cur : Array Value) (xs : List Value) (hg : w.heap[g]? = some (.cells cur 107 (0, 0))) (hcs : cur.size = cap * 2) (hcm : cap ≤ maxLen)
    (hx : cur.toList.take ((n + 1) * 2) = xs) (hi : i ≤ n) (hn : n + 1 ≤ cap) (h1x : ∀ v ∈ xs, v.oneCell' = true) :
    Calls Try.prog 80 #[.slice (some ⟨g, 0, none⟩) (n + 1) cap, .int .i64 i, .int .i64 ((i : Int) + 1)] w fun e w' =>
      e = .returned (.slice (some ⟨g, 0, none⟩) n cap) ∧ w' = (w.drew.setCells g (i * 2) (xs.drop ((i + 1) * 2))).setCells g (n * 2) zents := by
  unfold maxLen at hcm
  obtain ⟨i0, hi0, hz, hs2, hby⟩ := ent_info
  have hxl : xs.length = (n + 1) * 2 := by rw [← hx, List.length_take, Array.length_toList]; omega
  have hdl : (xs.drop ((i + 1) * 2)).length = (n - i) * 2 := by rw [List.length_drop, hxl]; omega
  have hc0 : ∀ j, w.cell? ⟨g, j, none⟩ = cur[j]? := fun j => cell_of_row w g j cur _ _ hg
  have hxc : ∀ j v, xs[j]? = some v → w.cell? ⟨g, j, none⟩ = some v := fun j v hj => by
    rw [hc0, ← hj, ← hx, List.getElem?_take, if_pos (by have := (List.getElem?_eq_some_iff.1 hj).1; omega)]; simp
  have hsp : ∀ j, j < cap * 2 → (w.cell? ⟨g, j, none⟩).isSome = true := fun j hj => by rw [hc0, Array.getElem?_eq_getElem (by omega)]; rfl
  have hz7 : ((i : Int) + 1).toNat = i + 1 := by omega
  have hz9 : (0 : Int) ≤ (i : Int) + 1 := by omega
  have hz1 : (i : Int) ≤ (n : Int) + 1 := by omega
  have hz2 : (i : Int) + 1 ≤ (n : Int) + 1 := by omega
  have hz3 : ((i : Int) == (i : Int) + 1) = false := beq_eq_false_iff_ne.2 (by omega)
  obtain ⟨A, hA, hsrc⟩ : ∃ A : Addr, (if cap = i + 1 then some (⟨g, 0, none⟩ : Addr) else some ⟨g, (i + 1) * 2, none⟩) = some A ∧ Hid (∀ t u, (xs.drop ((i + 1) * 2))[t]? = some u → w.drew.cell? (A.add t) = some u) := by
    by_cases h : cap = i + 1
    · refine ⟨⟨g, 0, none⟩, by simp [h], fun t u hu => ?_⟩
      rw [List.eq_nil_of_length_eq_zero (l := xs.drop ((i + 1) * 2)) (by rw [hdl]; omega)] at hu
      cases hu
    · refine ⟨⟨g, (i + 1) * 2, none⟩, by simp [h], fun t u hu => ?_⟩
      rw [Addr.add_lit]
      exact hxc _ u (by rwa [List.getElem?_drop] at hu)
  have s2 : Hid (∀ u ∈ xs.drop ((i + 1) * 2), u.oneCell' = true) := fun u hu => h1x u (List.mem_of_mem_drop hu)
  have s3 : Hid (∀ t, t < (xs.drop ((i + 1) * 2)).length → (w.drew.cell? ⟨g, 0 + i * 2 + t, none⟩).isSome = true ∧ w.drew.frozen? ⟨g, 0 + i * 2 + t, none⟩ = false) := fun t ht => ⟨hsp _ (by omega), (by simp [World.frozen?, hg] : w.frozen? ⟨g, 0 + i * 2 + t, none⟩ = false)⟩
  have s1 : Hid ((xs.drop ((i + 1) * 2)).length = (n - i) * 2) := hdl
  have hg1 := row_setCells g 107 (xs.drop ((i + 1) * 2)) (i * 2) w.drew cur hg (by rw [hdl]; omega)
  obtain ⟨W1, hW1⟩ : ∃ W1, W1 = w.drew.setCells g (i * 2) (xs.drop ((i + 1) * 2)) := ⟨_, rfl⟩
  rw [← hW1] at hg1 ⊢
  have hcl : ∀ ty c, (Builtin.clear_ #[86] ty #[.slice (some ⟨g, n * 2, none⟩) 1 c]).run Try.prog W1 = .ok (.tuple #[]) (W1.setCells g (n * 2) zents) := fun ty c =>
    run_clear_one W1 ty g (n * 2) c _ hg1 (by simp [hdl]; omega)
  have hW : Hid (W1 = w.drew.setCells g (0 + i * 2) (xs.drop ((i + 1) * 2))) := by rw [Nat.zero_add]; exact hW1
  have hnn : i + (n - i) = n := by omega
  have hic : i ≤ cap := by omega
  have hjc : i + 1 ≤ cap := by omega
  have hnc : ¬ (cap = n) := by omega
  have hq1 : n + 1 - n = 1 := by omega
  clear hW1 hg1 hdl hxl hc0 hxc hsp hg hx h1x hcs
  generalize xs.drop ((i + 1) * 2) = news at hsrc s1 s2 s3 hW
  go_enter Try.func80, Try.ntmps80
  go_wp2_with fail
  go_region_law (refine step_append_room rfl (.tmp 22) (.tmp 25) 86 rfl 107 i0 2 Try.underlying86 hi0 hs2 g 0 i cap (by simp [Act.eval, Act.put]) A (n - i) (cap - (i + 1)) news (by simp [Act.eval, Act.put]) s1.out hsrc.out s2.out (by omega) s3.out ?_; rw [← hW.out, hnn])
  go_wp2
  go_ret
  exact ⟨rfl, rfl⟩
end Idl
end Go.Proofs.Ytmhbphmdfnlmkaa
