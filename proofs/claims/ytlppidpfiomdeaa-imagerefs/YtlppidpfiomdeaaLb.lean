/-
  The walk of eiderdownlaw.ImageExact.
-/
import Derived.Test.YtlppidpfiomdeaaLa
import Derived.Test.YtlppidpfiomdeaaPb
namespace Go.Proofs.Ytlppidpfiomdeaa
open Go.RowKit
theorem u64_wrap (d : Int) : IntKind.u64.wrap d = d % 18446744073709551616 := by
  simp [IntKind.wrap, IntKind.signed, IntKind.bits]
theorem mod3 (d : Int) : ∃ k : Nat, k < 3 ∧ wrap64 ((IntKind.u64.wrap d).tmod 3) = k := by
  have h0 : 0 ≤ IntKind.u64.wrap d := by rw [u64_wrap]; omega
  generalize IntKind.u64.wrap d = x at h0 ⊢
  rw [Int.tmod_eq_emod_of_nonneg h0]
  exact ⟨(x % 3).toNat, by omega, by unfold wrap64; omega⟩
theorem mod4 (d : Int) : ∃ k : Nat, k < 4 ∧ wrap64 ((IntKind.u64.wrap d).tmod 4) = k := by
  have h0 : 0 ≤ IntKind.u64.wrap d := by rw [u64_wrap]; omega
  generalize IntKind.u64.wrap d = x at h0 ⊢
  rw [Int.tmod_eq_emod_of_nonneg h0]
  exact ⟨(x % 4).toNat, by omega, by unfold wrap64; omega⟩
theorem addr_ne {b i j : Nat} (h : i ≠ j) : (⟨b, i, none⟩ : Addr) ≠ ⟨b, j, none⟩ := fun e => h (by injection e)
theorem cell_set3 {W : World} {b o : Nat} {x y z u0 u1 u2 : Value} (h0 : W.cell? ⟨b, o, none⟩ = some u0) (h1 : W.cell? ⟨b, o + 1, none⟩ = some u1) (h2 : W.cell? ⟨b, o + 1 + 1, none⟩ = some u2) :
    (((W.setCell ⟨b, o, none⟩ x).setCell ⟨b, o + 1, none⟩ y).setCell ⟨b, o + 1 + 1, none⟩ z).cell? ⟨b, o, none⟩ = some x ∧ (((W.setCell ⟨b, o, none⟩ x).setCell ⟨b, o + 1, none⟩ y).setCell ⟨b, o + 1 + 1, none⟩ z).cell? ⟨b, o + 1, none⟩ = some y ∧
    (((W.setCell ⟨b, o, none⟩ x).setCell ⟨b, o + 1, none⟩ y).setCell ⟨b, o + 1 + 1, none⟩ z).cell? ⟨b, o + 1 + 1, none⟩ = some z ∧
    ∀ i, i ≠ o → i ≠ o + 1 → i ≠ o + 1 + 1 → (((W.setCell ⟨b, o, none⟩ x).setCell ⟨b, o + 1, none⟩ y).setCell ⟨b, o + 1 + 1, none⟩ z).cell? ⟨b, i, none⟩ = W.cell? ⟨b, i, none⟩ := by
  refine ⟨?_, ?_, ?_, fun i i0 i1 i2 => ?_⟩
  · rw [World.cell?_setCell_other _ _ _ _ (addr_ne (by omega)), World.cell?_setCell_other _ _ _ _ (addr_ne (by omega))]
    exact World.cell?_setCell_same _ _ _ h0
  · rw [World.cell?_setCell_other _ _ _ _ (addr_ne (by omega))]
    exact World.cell?_setCell_same _ _ _ (by rw [World.cell?_setCell_other _ _ _ _ (addr_ne (by omega))]; exact h1)
  · exact World.cell?_setCell_same _ _ _ (by rw [World.cell?_setCell_other _ _ _ _ (addr_ne (by omega)), World.cell?_setCell_other _ _ _ _ (addr_ne (by omega))]; exact h2)
  · rw [World.cell?_setCell_other _ _ _ _ (addr_ne (by omega)), World.cell?_setCell_other _ _ _ _ (addr_ne (by omega)), World.cell?_setCell_other _ _ _ _ (addr_ne (by omega))]
theorem HasImg.clear {W : World} {b : Nat} {m : Img} {d s : Nat} (h : HasImg W b m) (hd : d < 3) (hs : s < 4) :
    HasImg (((W.setCell ⟨b, 40 + d * 12 + s * 3, none⟩ (.string ⟨#[]⟩)).setCell ⟨b, 40 + d * 12 + s * 3 + 1, none⟩ (.int .i64 0)).setCell ⟨b, 40 + d * 12 + s * 3 + 2, none⟩ (.int .i64 0)) b (m.clear d s) := by
  obtain ⟨c0, c1, c2, co⟩ := cell_set3 (x := .string ⟨#[]⟩) (y := .int .i64 0) (z := .int .i64 0) (h.name d s hd hs) (h.ino d s hd hs) (h.est d s hd hs)
  refine ⟨by simpa using h.lt, fun n h1 => ?_, fun n h1 => ?_, fun n h1 => ?_, fun n p h1 h2 => ?_, fun d' s' h1 h2 => ?_, fun d' s' h1 h2 => ?_, fun d' s' h1 h2 => ?_, fun x h1 => ?_, fun x h1 => ?_, fun d' s' => ?_, h.short⟩
  · rw [co _ (by omega) (by omega) (by omega)]; exact h.live n h1
  · rw [co _ (by omega) (by omega) (by omega)]; exact h.stamp n h1
  · rw [co _ (by omega) (by omega) (by omega)]; exact h.links n h1
  · rw [co _ (by omega) (by omega) (by omega)]; exact h.part n p h1 h2
  · by_cases e : d' = d ∧ s' = s
    · obtain ⟨rfl, rfl⟩ := e; rw [Img.clear_name_at]; exact c0
    · rw [Img.clear_name e, co _ (by omega) (by omega) (by omega)]; exact h.name d' s' h1 h2
  · by_cases e : d' = d ∧ s' = s
    · obtain ⟨rfl, rfl⟩ := e
      have : (m.clear d' s').ino d' s' = 0 := if_pos ⟨rfl, rfl⟩
      rw [this]; exact c1
    · rw [Img.clear_ino e, co _ (by omega) (by omega) (by omega)]; exact h.ino d' s' h1 h2
  · by_cases e : d' = d ∧ s' = s
    · obtain ⟨rfl, rfl⟩ := e
      have : (m.clear d' s').est d' s' = 0 := if_pos ⟨rfl, rfl⟩
      rw [this]; exact c2
    · rw [Img.clear_est e, co _ (by omega) (by omega) (by omega)]; exact h.est d' s' h1 h2
  · rw [co _ (by omega) (by omega) (by omega)]; exact h.of x h1
  · rw [co _ (by omega) (by omega) (by omega)]; exact h.text x h1
  · by_cases e : d' = d ∧ s' = s
    · obtain ⟨rfl, rfl⟩ := e; rw [Img.clear_name_at]; exact Nat.zero_le _
    · rw [Img.clear_name e]; exact h.small d' s'
set_option maxHeartbeats 2000000 in
theorem imageExact_any (cs : Array Value) (hk : Kinds cs) (d s : Int) (w : World) :
    Calls Try.prog 4 #[.agg cs, .int .i64 d, .int .i64 s] w fun e w' => e = .returned (.bool true) ∧ Below w.heap.size w w' := by
  have U0 := hide (Uno.box w cs)
  have hi := hide (img_info hk.size)
  go_enter Try.func4, Try.ntmps4
  go_wp2_with fail
  refine (begun_any _).mono ?_
  rintro e w1 ⟨rfl, hb1⟩
  have U1 := hide ((unhide U0).call hb1)
  clear U0 hb1
  go_wp2_with (refine wpList_load_row rfl 34 _ rfl w.heap.size rfl 34 cs (0, 0) _ ?hl1 img_under rfl (unhide hi) ?_; exact (unhide U1).b)
  refine (great_any cs _ hk.isImg _).mono ?_
  rintro e w2 ⟨⟨v, rfl⟩, hb2⟩
  have U2 := hide ((unhide U1).call hb2)
  clear U1 hb2
  cases v
  case true =>
    go_wp2_with fail
    go_ret
    exact ⟨rfl, (unhide U2).below⟩
  go_wp2_with fail
  refine (exact_any _ (imgOf cs) _ ((unhide U2).has hk)).mono ?_
  rintro e w3 ⟨rfl, hb3⟩
  have U3 := hide ((unhide U2).call hb3)
  clear U2 hb3
  cases hex : (imgOf cs).exact
  · go_wp2_with fail
    go_ret
    exact ⟨rfl, (unhide U3).below⟩
  have hchk := Img.exact_check hex
  go_wp2_with fail
  refine (check_any _ (imgOf cs) _ ((unhide U3).has hk)).mono ?_
  rintro e w4 ⟨rfl, hb4⟩
  rw [hchk]
  have U4 := hide ((unhide U3).call hb4)
  clear U3 hb4
  have HE := hide hex
  have HC := hide hchk
  clear hex hchk
  obtain ⟨kd, hkd, ed⟩ := mod3 d
  obtain ⟨ks, hks, es⟩ := mod4 s
  have hm := (unhide U4).has hk
  have hn := hm.name kd ks hkd hks
  have hin := hm.ino kd ks hkd hks
  have hes := hm.est kd ks hkd hks
  have hfz : ∀ i, w4.frozen? ⟨w.heap.size, i, none⟩ = false := fun i => frozen_of_row _ _ _ _ _ (unhide U4).b
  cases hE : ((imgOf cs).name kd ks).toList.isEmpty
  · have hnamed : (imgOf cs).named kd ks = true := by unfold Img.named; rw [hE]; rfl
    have E1 := hide (Img.clear_check (unhide HC) hkd hks)
    have E2 := hide (Img.clear_exact (unhide HE) hkd hks hnamed)
    clear hnamed
    go_wp2_with fail
    have HW := hide (hm.clear hkd hks)
    have HB := hide ((((unhide U4).below.setCell (p := ⟨w.heap.size, 40 + kd * 12 + ks * 3, none⟩) (Nat.le_refl _) (.string ⟨#[]⟩)).setCell (p := ⟨w.heap.size, 40 + kd * 12 + ks * 3 + 1, none⟩) (Nat.le_refl _) (.int .i64 0)).setCell (p := ⟨w.heap.size, 40 + kd * 12 + ks * 3 + 2, none⟩) (Nat.le_refl _) (.int .i64 0))
    generalize ((w4.setCell ⟨w.heap.size, 40 + kd * 12 + ks * 3, none⟩ (.string ⟨#[]⟩)).setCell ⟨w.heap.size, 40 + kd * 12 + ks * 3 + 1, none⟩ (.int .i64 0)).setCell ⟨w.heap.size, 40 + kd * 12 + ks * 3 + 2, none⟩ (.int .i64 0) = W5 at HW HB ⊢
    clear hm hn hin hes hfz U4
    have hsz := (unhide HB).size
    refine (check_any _ ((imgOf cs).clear kd ks) _ (unhide HW)).mono ?_
    rw [unhide E1]
    rintro e w6 ⟨rfl, hb6⟩
    have HW6 := hide ((unhide HW).below hb6 (unhide HW).lt)
    go_wp2_with fail
    refine (exact_any _ ((imgOf cs).clear kd ks) _ (unhide HW6)).mono ?_
    rw [unhide E2]
    rintro e w7 ⟨rfl, hb7⟩
    go_wp2_with fail
    go_ret
    have hs6 := hb6.size
    exact ⟨rfl, (unhide HB).trans ((hb6.mono hsz).trans (hb7.mono (by omega)))⟩
  · go_wp2_with fail
    go_ret
    exact ⟨rfl, (unhide U4).below⟩
end Go.Proofs.Ytlppidpfiomdeaa
