/-
  The walk of eiderdownlaw.ImageRefs.
-/
import Derived.Test.YtlppidpfiomdeaaLb
import Derived.Test.YtlppidpfiomdeaaPc
namespace Go.Proofs.Ytlppidpfiomdeaa
open Go.RowKit
structure HeldN (w wr : World) (g : Nat) (m : Img) (t : Nat) : Prop where
  below : Below w.heap.size w wr
  img : HasImg wr w.heap.size m
  gt : w.heap.size < g
  size : g < wr.heap.size
  cell : ∀ x : Nat, x < 9 → wr.cell? ⟨g, x, none⟩ = some (.int .i64 (m.hc t x : Nat))
  frozen : ∀ x : Nat, wr.frozen? ⟨g, x, none⟩ = false
theorem HeldN.start {w wr : World} {m : Img} (h : Below w.heap.size w wr) (hm : HasImg wr w.heap.size m) :
    HeldN w (wr.alloc (.cells #[.int .i64 0, .int .i64 0, .int .i64 0, .int .i64 0, .int .i64 0, .int .i64 0, .int .i64 0, .int .i64 0, .int .i64 0] 39)) wr.heap.size m 0 := by
  have hb : Below wr.heap.size wr (wr.alloc (.cells #[.int .i64 0, .int .i64 0, .int .i64 0, .int .i64 0, .int .i64 0, .int .i64 0, .int .i64 0, .int .i64 0, .int .i64 0] 39)) := (Below.refl _ _).alloc (Nat.le_refl _) _
  refine ⟨h.trans (hb.mono h.size), hm.below hb hm.lt, hm.lt, by simp, fun x hx => ?_, fun x => by simp⟩
  match x, hx with
  | 0, _ => simp [Img.hc, Img.cnt]
  | 1, _ => simp [Img.hc, Img.cnt]
  | 2, _ => simp [Img.hc, Img.cnt]
  | 3, _ => simp [Img.hc, Img.cnt]
  | 4, _ => simp [Img.hc, Img.cnt]
  | 5, _ => simp [Img.hc, Img.cnt]
  | 6, _ => simp [Img.hc, Img.cnt]
  | 7, _ => simp [Img.hc, Img.cnt]
  | 8, _ => simp [Img.hc, Img.cnt]
theorem HeldN.skip {w wr : World} {g : Nat} {m : Img} {t : Nat} (h : HeldN w wr g m t) (hn : m.pa t < 0) : HeldN w wr g m (t + 1) :=
  ⟨h.below, h.img, h.gt, h.size, fun x hx => by
    have e : (m.pa t == (x : Int)) = false := by simp; omega
    rw [h.cell x hx]; unfold Img.hc; rw [Img.cnt_no (p := fun u => m.pa u == (x : Int)) e], h.frozen⟩
theorem HeldN.put {w wr : World} {g : Nat} {m : Img} {t : Nat} (h : HeldN w wr g m t) {k : Nat} (hk : k < 9) (hp : m.pa t = k) :
    HeldN w (wr.setCell ⟨g, k, none⟩ (.int .i64 ((m.hc t k : Nat) + 1))) g m (t + 1) := by
  have hb : Below g wr (wr.setCell ⟨g, k, none⟩ (.int .i64 ((m.hc t k : Nat) + 1))) := (Below.refl g wr).setCell (p := ⟨g, k, none⟩) (Nat.le_refl _) _
  have hgt := h.gt
  refine ⟨h.below.trans (hb.mono (by omega)), h.img.below hb h.gt, h.gt, by simpa using h.size, fun x hx => ?_, fun x => by simpa using h.frozen x⟩
  by_cases e : k = x
  · subst e
    rw [World.cell?_setCell_same _ _ _ (h.cell k hk)]
    unfold Img.hc
    rw [Img.cnt_yes (p := fun u => m.pa u == (k : Int)) (by rw [hp]; simp)]
    simp
  · rw [World.cell?_setCell_other _ _ _ _ (addr_ne e), h.cell x hx]
    unfold Img.hc
    rw [Img.cnt_no (p := fun u => m.pa u == (x : Int)) (by rw [hp]; simp; omega)]
theorem HeldN.draw {w wr : World} {g : Nat} {m : Img} {t q : Nat} (h : HeldN w wr g m t) : HeldN w (wr.drewN q) g m t :=
  ⟨belowN h.below, h.img.below (belowN (Below.refl _ _)) h.img.lt, h.gt, h.size, h.cell, h.frozen⟩
theorem HeldN.dead {w wr : World} {g : Nat} {m : Img} {n : Nat} (h : HeldN w wr g m (2 * n)) (hl : m.live n = false) : HeldN w wr g m (2 * (n + 1)) := by
  have h1 := h.skip (by have := pa_dead (p := 0) (by omega) hl; rw [Nat.add_zero] at this; rw [this]; omega)
  exact h1.skip (by rw [pa_dead (p := 1) (by omega) hl]; omega)
theorem hc_le16 (m : Img) (t x : Nat) : m.hc t x ≤ t := Img.cnt_le _ _
set_option maxHeartbeats 4000000 in
theorem imageRefs_any (cs : Array Value) (hk : Kinds cs) (w : World) :
    Calls Try.prog 3 #[.agg cs] w fun e w' => e = .returned (.bool true) ∧ Below w.heap.size w w' := by
  have U0 := hide (Uno.box w cs)
  have hi := hide (img_info hk.size)
  go_enter Try.func3, Try.ntmps3
  go_wp2_with fail
  refine (begun_any _).mono ?_
  rintro e w1 ⟨rfl, hb1⟩
  have U1 := hide ((unhide U0).call hb1)
  clear U0 hb1
  go_wp2_with (refine wpList_load_row rfl 34 _ rfl w.heap.size rfl 34 cs (0, 0) _ ?hl1 img_under rfl (unhide hi) ?_; exact (unhide U1).b)
  refine (great_any cs _ hk.isImg _).mono ?_
  rintro e w2 ⟨⟨v, rfl⟩, hb2⟩
  have U2 := hide ((unhide U1).call hb2)
  clear U1 hb2
  cases v
  case true =>
    go_wp2_with fail
    go_ret
    exact ⟨rfl, (unhide U2).below⟩
  go_wp2_with fail
  refine (check_any _ (imgOf cs) _ ((unhide U2).has hk)).mono ?_
  rintro e w3 ⟨rfl, hb3⟩
  have U3 := hide ((unhide U2).call hb3)
  clear U2 hb3
  cases hc0 : (imgOf cs).check == 0
  · go_wp2_with fail
    go_ret
    exact ⟨rfl, (unhide U3).below⟩
  have hchk : (imgOf cs).check = 0 := by simpa using hc0
  clear hc0
  rw [hchk]
  have HC := hide hchk
  clear hchk
  have hm := (unhide U3).has hk
  have hn := hm.name
  generalize hM : imgOf cs = m at *
  clear hM
  go_wp2_with fail
  go_loop [3, 5] (fun c i => ∃ d : Nat, d ≤ 3 ∧ i = .int .i64 d ∧ c = .int .i64 (m.namesTo d : Nat)) (fun _ i => 3 - (intOf i).toNat)
  case atStart => exact ⟨0, by omega, rfl, rfl⟩
  case round =>
    obtain ⟨d, hd, rfl, rfl⟩ := hrel
    have hb := m.namesTo_le d
    by_cases hlt : d < 3
    · have hd3 : decide ((d : Int) < 3) = true := by simp; omega
      go_wp2
      go_loop [3, 6] (fun c i => ∃ s : Nat, s ≤ 4 ∧ i = .int .i64 s ∧ c = .int .i64 (m.namesTo d + Img.cnt (m.named d) s : Nat)) (fun _ i => 4 - (intOf i).toNat)
      case atStart => exact ⟨0, by omega, rfl, by simp [Img.cnt]⟩
      case round =>
        obtain ⟨s, hs, rfl, rfl⟩ := hrel
        have hcl := Img.cnt_le (m.named d) s
        by_cases hls : s < 4
        · cases hE : (m.name d s).toList.isEmpty
          · have H := hide (Img.cnt_yes (p := m.named d) (n := s) (by unfold Img.named; rw [hE]; rfl))
            go_wp2
            go_round
            case rel => exact ⟨s + 1, by omega, by go_num, by rw [unhide H]; go_num⟩
            case measure => simp [intOf]; omega
          · have H := hide (Img.cnt_no (p := m.named d) (n := s) (by unfold Img.named; rw [hE]; rfl))
            go_wp2
            go_round
            case rel => exact ⟨s + 1, by omega, by go_num, by rw [unhide H]⟩
            case measure => simp [intOf]; omega
        · have e : s = 4 := by omega
          subst e
          go_wp2
          go_round
          case rel => exact ⟨d + 1, by omega, by go_num, by simp [Img.namesTo]⟩
          case measure => simp [intOf]; omega
    · have hd3 : decide ((d : Int) < 3) = false := by simp; omega
      have hN3 := hide (show m.namesTo d = m.namesTo 3 by rw [show d = 3 by omega])
      have S0 := hide (HeldN.start (unhide U3).below hm)
      clear hn
      go_wp2
      generalize hg : w3.heap.size = g at S0 ⊢
      clear hg hm U3 hb
      go_loopw [4, 8] (fun c i wr => ∃ n : Nat, n ≤ 8 ∧ i = .int .i64 n ∧ c = .int .i64 (m.liveTo n : Nat) ∧ HeldN w wr g m (2 * n)) (fun _ i _ => 8 - (intOf i).toNat)
      case atStart => exact ⟨0, by omega, rfl, rfl, unhide S0⟩
      case round =>
        clear S0
        obtain ⟨n, hn, rfl, rfl, hh⟩ := hrel
        have S := hide hh
        have hb := m.liveTo_le n
        have hr := m.refs_le n
        by_cases hln : n < 8
        · have hd8 : decide ((n : Int) < 8) = true := by simp; omega
          have hlv := hh.img.live n hln
          have hp := hh.img.part n
          clear hh
          cases hl : m.live n
          · rw [hl] at hlv
            have R0 := Img.refs_dead (unhide HC) hl
            have L := hide (show m.liveTo (n + 1) = m.liveTo n by show m.liveTo n + (if m.live n then m.refs n else 0) = _; rw [hl]; rfl)
            go_wp2_with (go_at_call 9; refine (refs_any _ m _ _ (unhide S).img).mono ?_; rw [R0]; rintro e w' ⟨rfl, rfl⟩)
            go_roundw
            case rel => exact ⟨n + 1, by omega, by go_num, by rw [unhide L], (unhide S).dead hl⟩
            case measure => simp [intOf]; omega
          · rw [hl] at hlv
            have L := hide (show m.liveTo (n + 1) = m.liveTo n + m.refs n by show m.liveTo n + (if m.live n then m.refs n else 0) = _; rw [hl]; rfl)
            go_wp2_with (go_at_call 9; refine (refs_any _ m _ _ (unhide S).img).mono ?_; rintro e w' ⟨rfl, rfl⟩)
            clear hlv hp
            go_loopw [10] (fun i wr => ∃ p : Nat, p ≤ 2 ∧ i = .int .i64 p ∧ HeldN w wr g m (2 * n + p)) (fun i _ => 2 - (intOf i).toNat)
            case atStart => exact ⟨0, by omega, rfl, unhide S⟩
            case round =>
              clear S
              obtain ⟨p, hp, rfl, hh⟩ := hrel
              have S := hide hh
              by_cases hlp : p < 2
              · have hpc := hh.img.part n p hln hlp
                have PA := hide (pa_live (m := m) hlp hl)
                rcases Img.part_ok (unhide HC) hln hlp hl with e | ⟨e1, e2⟩
                · have S2 := hide (hh.skip (by rw [unhide PA, e]; omega))
                  rw [e] at hpc
                  clear hh e
                  go_wp2
                  go_roundw
                  case rel => exact ⟨p + 1, by omega, by go_num, unhide S2⟩
                  case measure => simp [intOf]; omega
                · obtain ⟨k, ek⟩ := Int.eq_ofNat_of_zero_le e1
                  have hk9 : k < 9 := by omega
                  have S2 := hide (hh.put hk9 ((unhide PA).trans ek))
                  have hcl := hc_le16 m (2 * n + p) k
                  have hkc := hh.cell k hk9
                  have hkf := hh.frozen k
                  rw [ek] at hpc
                  clear hh e1 e2 ek PA
                  go_wp2
                  go_roundw
                  case rel => exact ⟨p + 1, by omega, by go_num, unhide S2⟩
                  case measure => simp [intOf]; omega
              · have e : p = 2 := by omega
                subst e
                clear hh
                go_wp2
                go_roundw
                case rel => exact ⟨n + 1, by omega, by go_num, by rw [unhide L]; go_num, unhide S⟩
                case measure => simp [intOf]; omega
        · have hd8 : decide ((n : Int) < 8) = false := by simp; omega
          have hL8 := hide (show m.liveTo n = m.liveTo 8 by rw [show n = 8 by omega])
          have S16 := hide (show HeldN w wr g m 16 by rwa [show 2 * n = 16 by omega] at hh)
          clear hh S
          go_wp2
          go_loopw [12] (fun i wr => ∃ x : Nat, x ≤ 9 ∧ i = .int .i64 x ∧ HeldN w wr g m 16) (fun i _ => 9 - (intOf i).toNat)
          case atStart => exact ⟨0, by omega, rfl, unhide S16⟩
          case round =>
            clear S16
            obtain ⟨x, hx, rfl, hh⟩ := hrel
            have S := hide hh
            by_cases hlx : x < 9
            · have hcx := hh.cell x hlx
              have hle := Img.hc_le (unhide HC) hlx
              have hho := Img.holds_hc (unhide HC) hlx
              have hcs : m.hc 16 x = 0 ∨ m.hc 16 x = 1 := by omega
              clear hle hh
              rcases hcs with e | e
              · rw [e] at hcx hho
                clear e
                have hq : ∀ q, Calls Try.prog 10 #[.pointer (some ⟨w.heap.size, 0, none⟩), .int .i64 x] (wr.drewN q) fun e w' => e = .returned (.bool false) ∧ w' = wr.drewN q := fun q => by
                  have := holds_any _ m x _ ((unhide S).draw (q := q)).img
                  rw [hho] at this; exact this
                have HQ := hide hq
                clear hq hho
                go_wp2
                go_quiet ((go_at_call 10; exact Calls.quiet_of_same (unhide HQ _)))
                go_wp2
                go_roundw
                case rel => exact ⟨x + 1, by omega, by go_num, (unhide S).draw⟩
                case measure => simp [intOf]; omega
              · rw [e] at hcx hho
                clear e
                have hq : ∀ q, Calls Try.prog 10 #[.pointer (some ⟨w.heap.size, 0, none⟩), .int .i64 x] (wr.drewN q) fun e w' => e = .returned (.bool true) ∧ w' = wr.drewN q := fun q => by
                  have := holds_any _ m x _ ((unhide S).draw (q := q)).img
                  rw [hho] at this; exact this
                have HQ := hide hq
                clear hq hho
                go_wp2
                go_quiet ((go_at_call 10; exact Calls.quiet_of_same (unhide HQ _)))
                go_wp2
                go_roundw
                case rel => exact ⟨x + 1, by omega, by go_num, (unhide S).draw⟩
                case measure => simp [intOf]; omega
            · have E := hide (show m.namesTo d = m.liveTo n by rw [unhide hN3, unhide hL8]; exact Img.names_live (unhide HC))
              clear hh
              go_wp2
              go_ret
              exact ⟨ret_bool (by rw [unhide E]; simp), (unhide S).below⟩
end Go.Proofs.Ytlppidpfiomdeaa
