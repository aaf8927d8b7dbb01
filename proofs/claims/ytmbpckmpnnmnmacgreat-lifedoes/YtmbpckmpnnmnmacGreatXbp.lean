/-
  The walk of (*eiderdownref.Ideal).List. (Written by genjg.py.)
-/
import Derived.Test.YtmbpckmpnnmnmacGreatZz
import Derived.Test.YtmbpckmpnnmnmacGreatXbo
namespace Go.Proofs.YtmbpckmpnnmnmacGreat
open Go.RowKit
namespace Idl
/-- the list so far: a row of one's own -/
def LS (w : World) (a : Option Addr) (m cap : Nat) (o : List ByteArray) (W : World) : Prop := W.ownsRow w.heap.size 9 1 (.slice a m cap) m (strs o) ∧ Below w.heap.size w W
/-- another row -/
def Off (a : Option Addr) (v : Value) : Prop := ∀ g, a.map Addr.block = some g → v.ownBlock ≠ some g
section
variable {w W W' : World} {a : Option Addr} {m cap : Nat} {o : List ByteArray}
theorem ownB (a : Option Addr) (m cap : Nat) : (Value.slice a m cap).ownBlock = a.map Addr.block := by cases a <;> rfl
theorem LS.draw (h : LS w a m cap o W) : LS w a m cap o W.drew := ⟨h.1, h.2.drew⟩
theorem LS.alloc (h : LS w a m cap o W) (ob : Obj) : LS w a m cap o (W.alloc ob) := ⟨World.ownsRow.alloc h.1 ob, h.2.alloc h.2.size ob⟩
theorem keepS {v : Value} {n : Nat} {xs : List Value} (h : LS w a m cap o W) (ho : W.ownsRow w.heap.size 9 1 v n xs) (hd : Off a v) (hg : W.grownBy W' v.ownBlock) : LS w a m cap o W' := by
  refine ⟨h.1.kept hg ?_, h.2.grown hg h.2.size (fun k hk => (ho.lt k hk).1)⟩
  cases a with
  | none => exact .inl rfl
  | some ad => exact .inr fun e => hd ad.block rfl (by rw [← e]; rfl)
theorem keepN (h : LS w a m cap o W) (hg : W.grownBy W' (Value.slice none 0 0).ownBlock) : LS w a m cap o W' := by
  refine ⟨h.1.kept hg ?_, h.2.grown hg h.2.size (fun k hk => by cases hk)⟩
  cases a with
  | none => exact .inl rfl
  | some ad => exact .inr fun e => by cases e
theorem keepE {v : Value} (h : LS w a m cap o W) (ha : v.ownBlock = (Value.slice none 0 0).ownBlock ∨ v.ownBlock = some W.heap.size) : Off a v := fun g hg e => by
  have := (h.1.lt g (by rw [ownB]; exact hg)).2
  rcases ha with ha | ha
  · rw [ha] at e; cases e
  · rw [ha] at e; cases e; omega
theorem keepD {v v2 : Value} (h : LS w a m cap o W) (hd : Off a v) (ha : v2.ownBlock = v.ownBlock ∨ v2.ownBlock = some W.heap.size) : Off a v2 := fun g hg e => by
  have := (h.1.lt g (by rw [ownB]; exact hg)).2
  rcases ha with ha | ha
  · exact hd g hg (by rw [← ha]; exact e)
  · rw [ha] at e; cases e; omega
theorem part_new (W : World) (s : ByteArray) : Part (W.alloc (.cells #[.string s] 9)) 1 (.slice (some ⟨W.heap.size, 0, none⟩) 1 1) 1 [.string s] := .inr ⟨_, _, rfl, rfl, one_new _ _ _ _ rfl⟩
theorem own_new {v : Value} {n : Nat} {xs : List Value} (h : W.ownsRow w.heap.size 9 1 v n xs) (ob : Obj) : (W.alloc ob).ownsRow w.heap.size 9 1 v n xs := World.ownsRow.alloc h ob
end
theorem strs_one (o : List ByteArray) : ∀ u ∈ strs o, u.oneCell' = true := fun u hu => by
  obtain ⟨_, _, rfl⟩ := List.mem_map.1 hu
  rfl
theorem strs_ins {o : List ByteArray} {s : ByteArray} {k : Nat} (h : plN o s = k) : strs (insN o s) = (strs o).take (k * 1) ++ [.string s] ++ (strs o).drop (k * 1) := by
  unfold insN strs
  rw [h, Nat.mul_one]
  simp
theorem insN_len {o : List ByteArray} {s : ByteArray} : (insN o s).length = o.length + 1 := by
  unfold insN
  rw [List.length_append, List.length_cons, List.length_take, List.length_drop]
  have : plN o s ≤ o.length := by unfold plN; exact (List.takeWhile_sublist _).length_le
  omega
theorem list_ends {w W : World} {a : Option Addr} {m cap k : Nat} {o X : List ByteArray} {s : ByteArray} {v : Value} (hp : plN o s = k) (hkm : k ≤ m) (hm : m = o.length) (hS : LS w a m cap o W)
    (ho : W.ownsRow w.heap.size 9 1 v (0 + k + 1 + (m - k)) ([] ++ (strs o).take (k * 1) ++ [.string s] ++ (strs o).drop (k * 1))) (hX : X = insN o s) :
    ∃ a m cap o', v = .slice a m cap ∧ m ≤ cap ∧ o' = X ∧ m = o'.length ∧ LS w a m cap o' W := by
  rw [List.nil_append, ← strs_ins hp, show 0 + k + 1 + (m - k) = (insN o s).length by rw [insN_len]; omega] at ho
  obtain ⟨a', cap', rfl, hc⟩ := own_form ho
  exact ⟨a', _, cap', insN o s, rfl, hc, hX.symm, rfl, ho, hS.2⟩
theorem list_cell {w W : World} {a : Option Addr} {m cap k : Nat} {o : List ByteArray} (h : LS w a m cap o W) (hm : m = o.length) (hk : k < m) : ∃ g, a = some ⟨g, 0, none⟩ ∧ W.cell? ⟨g, k, none⟩ = some (.string (o[k]'(by omega))) := by
  rcases h.1.2 with ⟨ev, e0⟩ | ⟨g, cap', cur, ev, _⟩
  · omega
  · simp only [Value.slice.injEq] at ev
    obtain ⟨rfl, _, rfl⟩ := ev
    refine ⟨g, rfl, ?_⟩
    have := h.1.cells (g := g) rfl k (.string (o[k]'(by omega))) (by unfold strs; rw [List.getElem?_map, List.getElem?_eq_getElem (by omega)]; rfl)
    rw [Addr.add_lit, Nat.zero_add] at this
    exact this
set_option maxRecDepth 100000 in
set_option maxHeartbeats 4000000 in
theorem rList_any {b : Nat} {S : St} {l : List Tg} {ta fa : Option Addr} {tc fc : Nat} (hfew : l.length ≤ 1000) (d : Int) (w : World) (h : IRd w b S l ta fa tc fc) :
    Calls Tryz.prog 47 #[.pointer (some ⟨b, 0, none⟩), .int .i64 d] w fun e w' => ∃ v, e = .returned v ∧ w'.ownsRow w.heap.size 9 1 v (namesOf l d []).length (strs (namesOf l d [])) ∧ Below w.heap.size w w' := by
  obtain ⟨i0, hi0, hz0, hz1, hz2⟩ := str_info
  have tv := h.tv
  have lt := h.lt
  have HT := hide h.tags
  obtain ⟨n, hn⟩ : ∃ n, n = l.length := ⟨_, rfl⟩
  have HN := hide hn
  rw [← hn] at tv hfew
  have HD := hide (show namesOf (l.take n) d [] = namesOf l d [] by rw [hn, List.take_of_length_le (Nat.le_refl _)])
  clear h hn
  go_enter Tryz.func47, Tryz.ntmps47
  go_wp2_with fail
  go_loopw [5, 6] (fun v i wr => ∃ k : Nat, k ≤ n ∧ i = .int .i64 k ∧ ∃ a m cap o, v = .slice a m cap ∧ m ≤ cap ∧ o = namesOf (l.take k) d [] ∧ m = o.length ∧ LS w a m cap o wr) (fun _ i _ => n - (intOf i).toNat)
  case atStart => exact ⟨0, Nat.zero_le _, rfl, none, 0, 0, [], rfl, Nat.le_refl _, by simp [namesOf], rfl, World.ownsRow_nil _ _ _ _, Below.refl _ _⟩
  case round =>
    rename_i wr
    obtain ⟨kk, hk, rfl, a, m, cap, o, rfl, hmc, ho, hm, hS0⟩ := hrel
    have tw : wr.cell? ⟨b, 0, none⟩ = some (.slice ta n tc) := (hS0.2.cell (p := ⟨b, 0, none⟩) lt).trans tv
    have ltw : b < wr.heap.size := Nat.lt_of_lt_of_le lt hS0.2.size
    by_cases hlt : kk < n
    · have tn : decide ((kk : Int) < (n : Int)) = true := by simp; omega
      have kz : (kk : Int) < (n : Int) := by omega
      have hkl : kk < l.length := by have := unhide HN; omega
      obtain ⟨g, og, rfl, hg, c0, c1, _⟩ := unhide HT kk hkl
      have d0 := (hS0.2.cell (p := ⟨g, og + kk * 3, none⟩) hg).trans c0
      have d1 := (hS0.2.cell (p := ⟨g, og + kk * 3 + 1, none⟩) hg).trans c1
      have MORE := hide (namesOf_more hkl d)
      rw [← ho] at MORE
      have hml : m ≤ 1000 := by
        have := namesOf_len (l.take kk) d []
        rw [← ho, ← hm, List.length_take] at this
        simp only [List.length_nil] at this
        omega
      have HM := hide hm
      clear c0 c1 hm ho
      generalize l[kk].name = s at d1 MORE
      generalize l[kk].dir = dd at d0 MORE
      cases h1 : (dd != d)
      · have hin : dd = d := by simpa using h1
        rw [if_pos hin] at MORE
        clear hin
        go_wp2_with fail
        try (go_quiet (fail); go_wp2_with fail)
        clear d0 d1 tw h1
        go_loopw [9] (fun i wx => ∃ k : Nat, k ≤ m ∧ i = .int .i64 k ∧ Hid (∀ j (hj : j < o.length), j < k → Idl.lt o[j] s = true) ∧ wx = wr) (fun i _ => m - (intOf i).toNat)
        case atStart => exact ⟨0, Nat.zero_le _, rfl, hide fun j hj h => by omega, rfl⟩
        case round =>
          obtain ⟨k, hkm, rfl, HA, rfl⟩ := hrel
          by_cases hlk : k < m
          · have tk : decide ((k : Int) < (m : Int)) = true := by simp; omega
            have kzz : (k : Int) < (m : Int) := by omega
            obtain ⟨go, rfl, co⟩ := list_cell hS0 (unhide HM) hlk
            have hko : k < o.length := by have := unhide HM; omega
            have EL := hide (show Idl.lt o[k] s = Op.bytesLess (o[k]).toList s.toList from rfl)
            have NX := hide (fun (h : Idl.lt o[k] s = true) => (fun j (hj : j < o.length) (hjk : j < k + 1) => by
              by_cases e : j = k
              · subst e; exact h
              · exact unhide HA j hj (by omega) : ∀ j (hj : j < o.length), j < k + 1 → Idl.lt o[j] s = true))
            have YES := hide (fun (h : Idl.lt o[k] s = false) => plN_at (k := k) (by omega) (unhide HA) (fun _ => h))
            generalize o[k] = ok at co EL NX YES
            cases h2 : Op.bytesLess ok.toList s.toList
            · have hpl := unhide YES (by rw [unhide EL, h2])
              clear NX YES HA EL
              go_wp2_with fail
              try (go_quiet (fail); go_wp2_with fail)
              obtain ⟨a, ha⟩ : ∃ a, a = some (⟨go, 0, none⟩ : Addr) := ⟨_, rfl⟩
              rw [← ha] at hS0 ⊢
              clear ha co h2
              obtain ⟨xl, hxl⟩ : ∃ x, x = sliced a 0 k cap 1 := ⟨_, rfl⟩
              obtain ⟨xh, hxh⟩ : ∃ x, x = sliced a k m cap 1 := ⟨_, rfl⟩
              have HXL := hide hxl
              have HXH := hide hxh
              clear hxl hxh
              refine wp_region_held_drew (S := LS w a m cap o) (by kernel_rfl) (LS.draw hS0) (fun hS => ?_)
              refine tkP (i := 0) (oi := ⟨some 51, .move (.tmp 8), 61, "base.go:439", #[], none⟩) (v := .slice none 0 0) hS ?_
              refine tkP (i := 1) (oi := ⟨some 52, .move (.tmp 5), 61, "base.go:439", #[], none⟩) (v := .slice a m cap) hS ?_
              refine tkP (i := 2) (oi := ⟨some 53, .move (.tmp 9), 3, "base.go:439", #[], none⟩) (v := .int .i64 k) hS ?_
              refine tkH (i := 3) (oi := ⟨some 54, .slice 61 (.tmp 52) none (some (.tmp 53)) none, 61, "base.go:439", #[⟨1, .data⟩, ⟨2, .data⟩], none⟩) (v := xl) (fun W h => (by rw [unhide HXL]; exact run_exec_cut_lo (m := m) (.tmp 52) (.tmp 53) 61 (by kernel_rfl) (by kernel_rfl) (by kernel_rfl) (by omega) Tryz.underlying61 (by kernel_rfl) W)) hS ?_
              refine tkP (i := 5) (oi := ⟨some 56, .move (.tmp 7), 9, "base.go:439", #[], none⟩) (v := .string s) hS ?_
              refine tkP (i := 8) (oi := ⟨some 59, .move (.tmp 5), 61, "base.go:439", #[], none⟩) (v := .slice a m cap) hS ?_
              refine tkP (i := 9) (oi := ⟨some 60, .move (.tmp 9), 3, "base.go:439", #[], none⟩) (v := .int .i64 k) hS ?_
              refine tkH (i := 10) (oi := ⟨some 61, .slice 61 (.tmp 59) (some (.tmp 60)) none none, 61, "base.go:439", #[⟨8, .data⟩, ⟨9, .data⟩], none⟩) (v := xh) (fun W h => (by rw [unhide HXH]; exact run_exec_cut_hi (m := m) (.tmp 59) (.tmp 60) 61 (by kernel_rfl) (by kernel_rfl) (by kernel_rfl) hkm Tryz.underlying61 (by kernel_rfl) W)) hS ?_
              generalize World.drew _ = W0 at hS ⊢
              refine wpAnyH_ready (rs := [4, 6]) (by kernel_rfl) (by simp) ?_
              refine AllReadyH.cons (o := ⟨some 55, .call { callee := .builtin .append, args := #[.tmp 51, .tmp 54], argTypes := #[61, 61] }, 61, "base.go:439", #[⟨0, .data⟩, ⟨3, .data⟩], none⟩) rfl (fun K hK => ?_) (AllReadyH.cons (o := ⟨some 57, .buildSlice 61 1 #[(0, .tmp 56)], 61, "base.go:439", #[⟨5, .data⟩], none⟩) rfl (fun K hK => ?_) AllReadyH.nil)
              · skip
                rw [if_pos (by kernel_rfl)]
                refine wp_append_part (.tmp 51) (.tmp 54) (by kernel_rfl) Tryz.underlying61 hi0 hz0 hz1 hz2 rfl (by omega) (by kernel_rfl) (World.ownsRow_nil _ _ _ _) (by kernel_rfl) (show Part _ 1 xl k ((strs o).take (k * 1)) by rw [unhide HXL]; exact part_lo hS.1 hkm) (fun u hu => strs_one o u (List.mem_of_mem_take hu)) (by unfold maxLen; omega) (by omega) hS.2.size ?_
                intro v1 W1 ho1 hg1 ha1
                have hS1 := keepN hS hg1
                have hd1 := keepE hS ha1
                refine hK.out _ _ hS1 (fun _ => ?_)
                clear hK K
                refine wpAnyH_ready (rs := [6]) (by kernel_rfl) (by simp) ?_
                refine AllReadyH.cons (o := ⟨some 57, .buildSlice 61 1 #[(0, .tmp 56)], 61, "base.go:439", #[⟨5, .data⟩], none⟩) rfl (fun K hK => ?_) AllReadyH.nil
                rw [if_pos (by kernel_rfl)]
                go_simp
                have hS2 := LS.alloc hS1 (.cells #[.string s] 9)
                have hp6 := part_new W1 s
                replace ho1 := own_new ho1 (.cells #[.string s] 9)
                refine hK.out _ _ hS2 (fun _ => ?_)
                clear hK K
                refine wpAnyH_ready (rs := [7]) (by kernel_rfl) (by simp) ?_
                refine AllReadyH.cons (o := ⟨some 58, .call { callee := .builtin .append, args := #[.tmp 55, .tmp 57], argTypes := #[61, 61] }, 61, "base.go:439", #[⟨4, .data⟩, ⟨6, .data⟩, ⟨4, .chain⟩], none⟩) rfl (fun K hK => ?_) AllReadyH.nil
                rw [if_pos (by kernel_rfl)]
                refine wp_append_part (.tmp 55) (.tmp 57) (by kernel_rfl) Tryz.underlying61 hi0 hz0 hz1 hz2 rfl (by omega) (by kernel_rfl) ho1 (by kernel_rfl) hp6 (one_str s) (by unfold maxLen; omega) (by omega) hS2.2.size ?_
                intro v2 W3 ho2 hg2 ha2
                have hS3 := keepS hS2 ho1 hd1 hg2
                have hd2 := keepD hS2 hd1 ha2
                refine hK.out _ _ hS3 (fun _ => ?_)
                clear hK K
                refine wpAnyH_ready (rs := [11]) (by kernel_rfl) (by simp) ?_
                refine AllReadyH.cons (o := ⟨some 62, .call { callee := .builtin .append, args := #[.tmp 58, .tmp 61], argTypes := #[61, 61] }, 61, "base.go:439", #[⟨7, .data⟩, ⟨10, .data⟩, ⟨7, .chain⟩], none⟩) rfl (fun K hK => ?_) AllReadyH.nil
                rw [if_pos (by kernel_rfl)]
                refine wp_append_part (.tmp 58) (.tmp 61) (by kernel_rfl) Tryz.underlying61 hi0 hz0 hz1 hz2 rfl (by omega) (by kernel_rfl) ho2 (by kernel_rfl) (show Part _ 1 xh (m - k) ((strs o).drop (k * 1)) by rw [unhide HXH]; exact part_hi hS3.1 hkm) (fun u hu => strs_one o u (List.mem_of_mem_drop hu)) (by unfold maxLen; omega) (by omega) hS3.2.size ?_
                intro v3 W4 ho3 hg3 _
                have hS4 := keepS hS3 ho2 hd2 hg3
                refine hK.out _ _ hS4 (fun _ => ?_)
                clear hK K
                refine tkH (i := 12) (oi := ⟨some 8, .assign (.tmp 62), 61, "base.go:439", #[⟨11, .data⟩, ⟨11, .chain⟩, ⟨0, .phase⟩, ⟨1, .phase⟩, ⟨2, .phase⟩, ⟨3, .phase⟩, ⟨4, .phase⟩, ⟨5, .phase⟩, ⟨6, .phase⟩, ⟨7, .phase⟩, ⟨8, .phase⟩, ⟨9, .phase⟩, ⟨10, .phase⟩, ⟨11, .phase⟩], none⟩) (v := v3) (fun W h => (by kernel_rfl)) hS4 ?_
                refine wpAnyH_done (by kernel_rfl) ?_ _
                simp only [Act.put, List.setIfInBounds_toArray, List.set_cons_zero, List.set_cons_succ]
                have HF := hide (list_ends hpl hkm (unhide HM) hS4 ho3 (unhide MORE))
                clear hS4 ho3 hS3 ho2 hg2 hg3 hd2 ha2
                go_wp2_with fail
                go_roundw
                case rel => exact ⟨kk + 1, by omega, by go_num, unhide HF⟩
                case measure => simp [intOf]; omega
              · skip
                rw [if_pos (by kernel_rfl)]
                go_simp
                have hS1 := LS.alloc hS (.cells #[.string s] 9)
                have hp5 := part_new W0 s
                refine hK.out _ _ hS1 (fun _ => ?_)
                clear hK K
                refine wpAnyH_ready (rs := [4]) (by kernel_rfl) (by simp) ?_
                refine AllReadyH.cons (o := ⟨some 55, .call { callee := .builtin .append, args := #[.tmp 51, .tmp 54], argTypes := #[61, 61] }, 61, "base.go:439", #[⟨0, .data⟩, ⟨3, .data⟩], none⟩) rfl (fun K hK => ?_) AllReadyH.nil
                rw [if_pos (by kernel_rfl)]
                refine wp_append_part (.tmp 51) (.tmp 54) (by kernel_rfl) Tryz.underlying61 hi0 hz0 hz1 hz2 rfl (by omega) (by kernel_rfl) (World.ownsRow_nil _ _ _ _) (by kernel_rfl) (show Part _ 1 xl k ((strs o).take (k * 1)) by rw [unhide HXL]; exact part_lo hS1.1 hkm) (fun u hu => strs_one o u (List.mem_of_mem_take hu)) (by unfold maxLen; omega) (by omega) hS1.2.size ?_
                intro v1 W2 ho1 hg1 ha1
                have hS2 := keepN hS1 hg1
                have hd1 := keepE hS1 ha1
                have hp6 := hp5.grown (B := 0) (fun j hj _ => hg1.block j hj (by intro h; cases h)) (Nat.zero_le _) (by simp)
                refine hK.out _ _ hS2 (fun _ => ?_)
                clear hK K
                refine wpAnyH_ready (rs := [7]) (by kernel_rfl) (by simp) ?_
                refine AllReadyH.cons (o := ⟨some 58, .call { callee := .builtin .append, args := #[.tmp 55, .tmp 57], argTypes := #[61, 61] }, 61, "base.go:439", #[⟨4, .data⟩, ⟨6, .data⟩, ⟨4, .chain⟩], none⟩) rfl (fun K hK => ?_) AllReadyH.nil
                rw [if_pos (by kernel_rfl)]
                refine wp_append_part (.tmp 55) (.tmp 57) (by kernel_rfl) Tryz.underlying61 hi0 hz0 hz1 hz2 rfl (by omega) (by kernel_rfl) ho1 (by kernel_rfl) hp6 (one_str s) (by unfold maxLen; omega) (by omega) hS2.2.size ?_
                intro v2 W3 ho2 hg2 ha2
                have hS3 := keepS hS2 ho1 hd1 hg2
                have hd2 := keepD hS2 hd1 ha2
                refine hK.out _ _ hS3 (fun _ => ?_)
                clear hK K
                refine wpAnyH_ready (rs := [11]) (by kernel_rfl) (by simp) ?_
                refine AllReadyH.cons (o := ⟨some 62, .call { callee := .builtin .append, args := #[.tmp 58, .tmp 61], argTypes := #[61, 61] }, 61, "base.go:439", #[⟨7, .data⟩, ⟨10, .data⟩, ⟨7, .chain⟩], none⟩) rfl (fun K hK => ?_) AllReadyH.nil
                rw [if_pos (by kernel_rfl)]
                refine wp_append_part (.tmp 58) (.tmp 61) (by kernel_rfl) Tryz.underlying61 hi0 hz0 hz1 hz2 rfl (by omega) (by kernel_rfl) ho2 (by kernel_rfl) (show Part _ 1 xh (m - k) ((strs o).drop (k * 1)) by rw [unhide HXH]; exact part_hi hS3.1 hkm) (fun u hu => strs_one o u (List.mem_of_mem_drop hu)) (by unfold maxLen; omega) (by omega) hS3.2.size ?_
                intro v3 W4 ho3 hg3 _
                have hS4 := keepS hS3 ho2 hd2 hg3
                refine hK.out _ _ hS4 (fun _ => ?_)
                clear hK K
                refine tkH (i := 12) (oi := ⟨some 8, .assign (.tmp 62), 61, "base.go:439", #[⟨11, .data⟩, ⟨11, .chain⟩, ⟨0, .phase⟩, ⟨1, .phase⟩, ⟨2, .phase⟩, ⟨3, .phase⟩, ⟨4, .phase⟩, ⟨5, .phase⟩, ⟨6, .phase⟩, ⟨7, .phase⟩, ⟨8, .phase⟩, ⟨9, .phase⟩, ⟨10, .phase⟩, ⟨11, .phase⟩], none⟩) (v := v3) (fun W h => (by kernel_rfl)) hS4 ?_
                refine wpAnyH_done (by kernel_rfl) ?_ _
                simp only [Act.put, List.setIfInBounds_toArray, List.set_cons_zero, List.set_cons_succ]
                have HF := hide (list_ends hpl hkm (unhide HM) hS4 ho3 (unhide MORE))
                clear hS4 ho3 hS3 ho2 hg2 hg3 hd2 ha2
                go_wp2_with fail
                go_roundw
                case rel => exact ⟨kk + 1, by omega, by go_num, unhide HF⟩
                case measure => simp [intOf]; omega
            · have W := hide (unhide NX (by rw [unhide EL, h2]))
              clear NX YES HA EL
              go_wp2_with fail
              try (go_quiet (fail); go_wp2_with fail)
              go_roundw
              case rel => exact ⟨k + 1, by omega, by go_num, W, trivial⟩
              case measure => simp [intOf]; omega
          · have tk : decide ((k : Int) < (m : Int)) = false := by simp; omega
            have hpl : plN o s = k := plN_at (by have := unhide HM; omega) (unhide HA) (fun hj => by have := unhide HM; omega)
            clear HA
            go_wp2_with fail
            try (go_quiet (fail); go_wp2_with fail)
            obtain ⟨xl, hxl⟩ : ∃ x, x = sliced a 0 k cap 1 := ⟨_, rfl⟩
            obtain ⟨xh, hxh⟩ : ∃ x, x = sliced a k m cap 1 := ⟨_, rfl⟩
            have HXL := hide hxl
            have HXH := hide hxh
            clear hxl hxh
            refine wp_region_held_drew (S := LS w a m cap o) (by kernel_rfl) (LS.draw hS0) (fun hS => ?_)
            refine tkP (i := 0) (oi := ⟨some 51, .move (.tmp 8), 61, "base.go:439", #[], none⟩) (v := .slice none 0 0) hS ?_
            refine tkP (i := 1) (oi := ⟨some 52, .move (.tmp 5), 61, "base.go:439", #[], none⟩) (v := .slice a m cap) hS ?_
            refine tkP (i := 2) (oi := ⟨some 53, .move (.tmp 9), 3, "base.go:439", #[], none⟩) (v := .int .i64 k) hS ?_
            refine tkH (i := 3) (oi := ⟨some 54, .slice 61 (.tmp 52) none (some (.tmp 53)) none, 61, "base.go:439", #[⟨1, .data⟩, ⟨2, .data⟩], none⟩) (v := xl) (fun W h => (by rw [unhide HXL]; exact run_exec_cut_lo (m := m) (.tmp 52) (.tmp 53) 61 (by kernel_rfl) (by kernel_rfl) (by kernel_rfl) (by omega) Tryz.underlying61 (by kernel_rfl) W)) hS ?_
            refine tkP (i := 5) (oi := ⟨some 56, .move (.tmp 7), 9, "base.go:439", #[], none⟩) (v := .string s) hS ?_
            refine tkP (i := 8) (oi := ⟨some 59, .move (.tmp 5), 61, "base.go:439", #[], none⟩) (v := .slice a m cap) hS ?_
            refine tkP (i := 9) (oi := ⟨some 60, .move (.tmp 9), 3, "base.go:439", #[], none⟩) (v := .int .i64 k) hS ?_
            refine tkH (i := 10) (oi := ⟨some 61, .slice 61 (.tmp 59) (some (.tmp 60)) none none, 61, "base.go:439", #[⟨8, .data⟩, ⟨9, .data⟩], none⟩) (v := xh) (fun W h => (by rw [unhide HXH]; exact run_exec_cut_hi (m := m) (.tmp 59) (.tmp 60) 61 (by kernel_rfl) (by kernel_rfl) (by kernel_rfl) hkm Tryz.underlying61 (by kernel_rfl) W)) hS ?_
            generalize World.drew _ = W0 at hS ⊢
            refine wpAnyH_ready (rs := [4, 6]) (by kernel_rfl) (by simp) ?_
            refine AllReadyH.cons (o := ⟨some 55, .call { callee := .builtin .append, args := #[.tmp 51, .tmp 54], argTypes := #[61, 61] }, 61, "base.go:439", #[⟨0, .data⟩, ⟨3, .data⟩], none⟩) rfl (fun K hK => ?_) (AllReadyH.cons (o := ⟨some 57, .buildSlice 61 1 #[(0, .tmp 56)], 61, "base.go:439", #[⟨5, .data⟩], none⟩) rfl (fun K hK => ?_) AllReadyH.nil)
            · skip
              rw [if_pos (by kernel_rfl)]
              refine wp_append_part (.tmp 51) (.tmp 54) (by kernel_rfl) Tryz.underlying61 hi0 hz0 hz1 hz2 rfl (by omega) (by kernel_rfl) (World.ownsRow_nil _ _ _ _) (by kernel_rfl) (show Part _ 1 xl k ((strs o).take (k * 1)) by rw [unhide HXL]; exact part_lo hS.1 hkm) (fun u hu => strs_one o u (List.mem_of_mem_take hu)) (by unfold maxLen; omega) (by omega) hS.2.size ?_
              intro v1 W1 ho1 hg1 ha1
              have hS1 := keepN hS hg1
              have hd1 := keepE hS ha1
              refine hK.out _ _ hS1 (fun _ => ?_)
              clear hK K
              refine wpAnyH_ready (rs := [6]) (by kernel_rfl) (by simp) ?_
              refine AllReadyH.cons (o := ⟨some 57, .buildSlice 61 1 #[(0, .tmp 56)], 61, "base.go:439", #[⟨5, .data⟩], none⟩) rfl (fun K hK => ?_) AllReadyH.nil
              rw [if_pos (by kernel_rfl)]
              go_simp
              have hS2 := LS.alloc hS1 (.cells #[.string s] 9)
              have hp6 := part_new W1 s
              replace ho1 := own_new ho1 (.cells #[.string s] 9)
              refine hK.out _ _ hS2 (fun _ => ?_)
              clear hK K
              refine wpAnyH_ready (rs := [7]) (by kernel_rfl) (by simp) ?_
              refine AllReadyH.cons (o := ⟨some 58, .call { callee := .builtin .append, args := #[.tmp 55, .tmp 57], argTypes := #[61, 61] }, 61, "base.go:439", #[⟨4, .data⟩, ⟨6, .data⟩, ⟨4, .chain⟩], none⟩) rfl (fun K hK => ?_) AllReadyH.nil
              rw [if_pos (by kernel_rfl)]
              refine wp_append_part (.tmp 55) (.tmp 57) (by kernel_rfl) Tryz.underlying61 hi0 hz0 hz1 hz2 rfl (by omega) (by kernel_rfl) ho1 (by kernel_rfl) hp6 (one_str s) (by unfold maxLen; omega) (by omega) hS2.2.size ?_
              intro v2 W3 ho2 hg2 ha2
              have hS3 := keepS hS2 ho1 hd1 hg2
              have hd2 := keepD hS2 hd1 ha2
              refine hK.out _ _ hS3 (fun _ => ?_)
              clear hK K
              refine wpAnyH_ready (rs := [11]) (by kernel_rfl) (by simp) ?_
              refine AllReadyH.cons (o := ⟨some 62, .call { callee := .builtin .append, args := #[.tmp 58, .tmp 61], argTypes := #[61, 61] }, 61, "base.go:439", #[⟨7, .data⟩, ⟨10, .data⟩, ⟨7, .chain⟩], none⟩) rfl (fun K hK => ?_) AllReadyH.nil
              rw [if_pos (by kernel_rfl)]
              refine wp_append_part (.tmp 58) (.tmp 61) (by kernel_rfl) Tryz.underlying61 hi0 hz0 hz1 hz2 rfl (by omega) (by kernel_rfl) ho2 (by kernel_rfl) (show Part _ 1 xh (m - k) ((strs o).drop (k * 1)) by rw [unhide HXH]; exact part_hi hS3.1 hkm) (fun u hu => strs_one o u (List.mem_of_mem_drop hu)) (by unfold maxLen; omega) (by omega) hS3.2.size ?_
              intro v3 W4 ho3 hg3 _
              have hS4 := keepS hS3 ho2 hd2 hg3
              refine hK.out _ _ hS4 (fun _ => ?_)
              clear hK K
              refine tkH (i := 12) (oi := ⟨some 8, .assign (.tmp 62), 61, "base.go:439", #[⟨11, .data⟩, ⟨11, .chain⟩, ⟨0, .phase⟩, ⟨1, .phase⟩, ⟨2, .phase⟩, ⟨3, .phase⟩, ⟨4, .phase⟩, ⟨5, .phase⟩, ⟨6, .phase⟩, ⟨7, .phase⟩, ⟨8, .phase⟩, ⟨9, .phase⟩, ⟨10, .phase⟩, ⟨11, .phase⟩], none⟩) (v := v3) (fun W h => (by kernel_rfl)) hS4 ?_
              refine wpAnyH_done (by kernel_rfl) ?_ _
              simp only [Act.put, List.setIfInBounds_toArray, List.set_cons_zero, List.set_cons_succ]
              have HF := hide (list_ends hpl hkm (unhide HM) hS4 ho3 (unhide MORE))
              clear hS4 ho3 hS3 ho2 hg2 hg3 hd2 ha2
              go_wp2_with fail
              go_roundw
              case rel => exact ⟨kk + 1, by omega, by go_num, unhide HF⟩
              case measure => simp [intOf]; omega
            · skip
              rw [if_pos (by kernel_rfl)]
              go_simp
              have hS1 := LS.alloc hS (.cells #[.string s] 9)
              have hp5 := part_new W0 s
              refine hK.out _ _ hS1 (fun _ => ?_)
              clear hK K
              refine wpAnyH_ready (rs := [4]) (by kernel_rfl) (by simp) ?_
              refine AllReadyH.cons (o := ⟨some 55, .call { callee := .builtin .append, args := #[.tmp 51, .tmp 54], argTypes := #[61, 61] }, 61, "base.go:439", #[⟨0, .data⟩, ⟨3, .data⟩], none⟩) rfl (fun K hK => ?_) AllReadyH.nil
              rw [if_pos (by kernel_rfl)]
              refine wp_append_part (.tmp 51) (.tmp 54) (by kernel_rfl) Tryz.underlying61 hi0 hz0 hz1 hz2 rfl (by omega) (by kernel_rfl) (World.ownsRow_nil _ _ _ _) (by kernel_rfl) (show Part _ 1 xl k ((strs o).take (k * 1)) by rw [unhide HXL]; exact part_lo hS1.1 hkm) (fun u hu => strs_one o u (List.mem_of_mem_take hu)) (by unfold maxLen; omega) (by omega) hS1.2.size ?_
              intro v1 W2 ho1 hg1 ha1
              have hS2 := keepN hS1 hg1
              have hd1 := keepE hS1 ha1
              have hp6 := hp5.grown (B := 0) (fun j hj _ => hg1.block j hj (by intro h; cases h)) (Nat.zero_le _) (by simp)
              refine hK.out _ _ hS2 (fun _ => ?_)
              clear hK K
              refine wpAnyH_ready (rs := [7]) (by kernel_rfl) (by simp) ?_
              refine AllReadyH.cons (o := ⟨some 58, .call { callee := .builtin .append, args := #[.tmp 55, .tmp 57], argTypes := #[61, 61] }, 61, "base.go:439", #[⟨4, .data⟩, ⟨6, .data⟩, ⟨4, .chain⟩], none⟩) rfl (fun K hK => ?_) AllReadyH.nil
              rw [if_pos (by kernel_rfl)]
              refine wp_append_part (.tmp 55) (.tmp 57) (by kernel_rfl) Tryz.underlying61 hi0 hz0 hz1 hz2 rfl (by omega) (by kernel_rfl) ho1 (by kernel_rfl) hp6 (one_str s) (by unfold maxLen; omega) (by omega) hS2.2.size ?_
              intro v2 W3 ho2 hg2 ha2
              have hS3 := keepS hS2 ho1 hd1 hg2
              have hd2 := keepD hS2 hd1 ha2
              refine hK.out _ _ hS3 (fun _ => ?_)
              clear hK K
              refine wpAnyH_ready (rs := [11]) (by kernel_rfl) (by simp) ?_
              refine AllReadyH.cons (o := ⟨some 62, .call { callee := .builtin .append, args := #[.tmp 58, .tmp 61], argTypes := #[61, 61] }, 61, "base.go:439", #[⟨7, .data⟩, ⟨10, .data⟩, ⟨7, .chain⟩], none⟩) rfl (fun K hK => ?_) AllReadyH.nil
              rw [if_pos (by kernel_rfl)]
              refine wp_append_part (.tmp 58) (.tmp 61) (by kernel_rfl) Tryz.underlying61 hi0 hz0 hz1 hz2 rfl (by omega) (by kernel_rfl) ho2 (by kernel_rfl) (show Part _ 1 xh (m - k) ((strs o).drop (k * 1)) by rw [unhide HXH]; exact part_hi hS3.1 hkm) (fun u hu => strs_one o u (List.mem_of_mem_drop hu)) (by unfold maxLen; omega) (by omega) hS3.2.size ?_
              intro v3 W4 ho3 hg3 _
              have hS4 := keepS hS3 ho2 hd2 hg3
              refine hK.out _ _ hS4 (fun _ => ?_)
              clear hK K
              refine tkH (i := 12) (oi := ⟨some 8, .assign (.tmp 62), 61, "base.go:439", #[⟨11, .data⟩, ⟨11, .chain⟩, ⟨0, .phase⟩, ⟨1, .phase⟩, ⟨2, .phase⟩, ⟨3, .phase⟩, ⟨4, .phase⟩, ⟨5, .phase⟩, ⟨6, .phase⟩, ⟨7, .phase⟩, ⟨8, .phase⟩, ⟨9, .phase⟩, ⟨10, .phase⟩, ⟨11, .phase⟩], none⟩) (v := v3) (fun W h => (by kernel_rfl)) hS4 ?_
              refine wpAnyH_done (by kernel_rfl) ?_ _
              simp only [Act.put, List.setIfInBounds_toArray, List.set_cons_zero, List.set_cons_succ]
              have HF := hide (list_ends hpl hkm (unhide HM) hS4 ho3 (unhide MORE))
              clear hS4 ho3 hS3 ho2 hg2 hg3 hd2 ha2
              go_wp2_with fail
              go_roundw
              case rel => exact ⟨kk + 1, by omega, by go_num, unhide HF⟩
              case measure => simp [intOf]; omega
      · have hin : ¬ dd = d := by simpa using h1
        rw [if_neg hin] at MORE
        clear hin
        go_wp2_with fail
        try (go_quiet (fail); go_wp2_with fail)
        go_roundw
        case rel => exact ⟨kk + 1, by omega, by go_num, a, m, cap, o, rfl, hmc, (unhide MORE).symm, unhide HM, hS0⟩
        case measure => simp [intOf]; omega
    · have tn : decide ((kk : Int) < (n : Int)) = false := by simp; omega
      have ek : kk = n := by omega
      go_wp2_with fail
      go_ret
      refine ⟨_, rfl, ?_, hS0.2⟩
      have := hS0.1
      rw [ek, unhide HD] at ho
      rw [← ho, ← hm]
      exact this
end Idl
end Go.Proofs.YtmbpckmpnnmnmacGreat
