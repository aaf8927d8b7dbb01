/-
  The walk of eiderdownref.InodeAs.
-/
import Derived.Test.YtmbpckmpnnmnmacGreatTn
namespace Go.Proofs.YtmbpckmpnnmnmacGreat
open Go.RowKit
set_option maxHeartbeats 2000000 in
theorem rInode_dead (b c : Nat) (m k : Img) (n : Nat) (hn : n < 8) (w : World) (hm : HasImg w b m) (hk : HasImg w c k) (hl : m.live n = false) :
    Calls Tryz.prog 103 #[.pointer (some ⟨b, 0, none⟩), .pointer (some ⟨c, 0, none⟩), .int .i64 n] w fun e w' => e = .returned (inoV (Img.inodeAs m k n)) ∧ Below w.heap.size w w' := by
  have hlv := hm.live n hn
  rw [hl] at hlv
  have hst := hm.stamp n hn
  have hln := hm.links n hn
  have hp0 := hm.part n 0 hn (by omega)
  have hp1 := hm.part n 1 hn (by omega)
  have klv := hk.live n hn
  have kst := hk.stamp n hn
  have kln := hk.links n hn
  have kp0 := hk.part n 0 hn (by omega)
  have kp1 := hk.part n 1 hn (by omega)
  have hu := Img.uni_le m k n
  have hlb := hm.lt
  have hlc := hk.lt
  have hb1 : Below w.heap.size w (w.alloc (.cells #[.bool false, .int .i64 0, .int .i64 0, .int .i64 0, .int .i64 0] 34)) := (Below.refl _ _).alloc (Nat.le_refl _) _
  have hb2 := hb1.alloc (by simp) (.cells #[.bool false, .int .i64 (m.stamp n), .int .i64 (m.links n), .int .i64 (m.part n 0), .int .i64 (m.part n 1)] 34)
  have C := hide (both_any b c m k (n : Int) _ (hm.below hb2 hlb) (hk.below hb2 hlc))
  cases gk : k.live n
  · have E := hide (show Img.inodeAs m k n = Ino.none by unfold Img.inodeAs; rw [if_neg (by rw [hl]; simp), if_neg (by rw [gk]; simp)])
    rw [gk] at klv
    clear gk hl
    go_enter Tryz.func103, Tryz.ntmps103
    go_wp2_with fail
    refine (none_any _).mono ?_
    rintro e w2 ⟨rfl, hb⟩
    obtain ⟨hc, hf⟩ := bcell hb
    go_wp2_with fail
    have T2 := ((TwoT.start w 34 34 ino0 _).call hb).ret5 (.bool false) (.int .i64 0) (.int .i64 0) (.int .i64 (-1)) (.int .i64 (-1))
    rw [unhide E]
    refine bodyPost_ret (v := inoV Ino.none) ?_ rfl ⟨rfl, T2.below⟩
    exact results_cell_row (P := Tryz.prog) Tryz.results103 _ _ w.heap.size 34 _ (0, 0) _ rfl T2.b0 ino_under rfl ino_info
  · rw [gk] at klv
    cases gu : (((Img.uni m k n : Nat) : Int) == 0)
    · have E := hide (show Img.inodeAs m k n = ⟨true, k.stamp n, Img.uni m k n, k.part n 0, k.part n 1⟩ by unfold Img.inodeAs; rw [if_neg (by rw [hl]; simp), if_pos ⟨gk, by simp at gu; omega⟩])
      clear gk hl
      go_enter Tryz.func103, Tryz.ntmps103
      go_wp2_with fail
      refine (unhide C).mono ?_
      rintro e wz ⟨rfl, ez⟩
      rw [ez]
      clear ez wz
      go_wp2_with fail
      have hb3 := hb1.alloc (by simp) (.cells #[.bool true, .int .i64 (k.stamp n), .int .i64 (k.links n), .int .i64 (k.part n 0), .int .i64 (k.part n 1)] 34)
      refine (both_any b c m k (n : Int) _ (hm.below hb3 hlb) (hk.below hb3 hlc)).mono ?_
      rintro e wz ⟨rfl, ez⟩
      rw [ez]
      clear ez wz
      go_wp2_with fail
      rw [unhide E]
      have T1 := TwoT.start w 34 34 #[.bool true, .int .i64 (k.stamp n), .int .i64 (Img.uni m k n : Nat), .int .i64 (k.part n 0), .int .i64 (k.part n 1)] #[.bool true, .int .i64 (k.stamp n), .int .i64 (Img.uni m k n : Nat), .int .i64 (k.part n 0), .int .i64 (k.part n 1)]
      refine bodyPost_ret (v := inoV ⟨true, k.stamp n, Img.uni m k n, k.part n 0, k.part n 1⟩) ?_ rfl ⟨rfl, T1.below⟩
      exact results_cell_row (P := Tryz.prog) Tryz.results103 _ _ w.heap.size 34 _ (0, 0) _ rfl T1.b0 ino_under rfl ino_info
    · have E := hide (show Img.inodeAs m k n = Ino.none by unfold Img.inodeAs; rw [if_neg (by rw [hl]; simp), if_neg (fun z => z.2 (by simp at gu; omega))])
      clear gk hl
      go_enter Tryz.func103, Tryz.ntmps103
      go_wp2_with fail
      refine (unhide C).mono ?_
      rintro e wz ⟨rfl, ez⟩
      rw [ez]
      clear ez wz
      go_wp2_with fail
      refine (none_any _).mono ?_
      rintro e w2 ⟨rfl, hb⟩
      obtain ⟨hc, hf⟩ := bcell hb
      go_wp2_with fail
      have T2 := ((TwoT.start w 34 34 ino0 _).call hb).ret5 (.bool false) (.int .i64 0) (.int .i64 0) (.int .i64 (-1)) (.int .i64 (-1))
      rw [unhide E]
      refine bodyPost_ret (v := inoV Ino.none) ?_ rfl ⟨rfl, T2.below⟩
      exact results_cell_row (P := Tryz.prog) Tryz.results103 _ _ w.heap.size 34 _ (0, 0) _ rfl T2.b0 ino_under rfl ino_info
structure PRow (m k : Img) (n p : Nat) (c : Array Value) : Prop where
  size : c.size = 5
  c0 : c[0]? = some (.bool true)
  c1 : c[1]? = some (.int .i64 (m.stamp n))
  c2 : c[2]? = some (.int .i64 (Img.uni m k n : Nat))
  part : ∀ q, q < 2 → c[3 + q]? = some (.int .i64 (if q < p then Img.partAs m k n q else m.part n q))
theorem PRow.put {m k : Img} {n p : Nat} {c : Array Value} (h : PRow m k n p c) (hp : p < 2) : PRow m k n (p + 1) (c.setIfInBounds (3 + p) (.int .i64 (Img.partAs m k n p))) := by
  have hs := h.size
  refine ⟨by simp [hs], ?_, ?_, ?_, fun q hq => ?_⟩
  · rw [Array.getElem?_setIfInBounds, if_neg (by omega)]; exact h.c0
  · rw [Array.getElem?_setIfInBounds, if_neg (by omega)]; exact h.c1
  · rw [Array.getElem?_setIfInBounds, if_neg (by omega)]; exact h.c2
  · rw [Array.getElem?_setIfInBounds]
    by_cases e : p = q
    · subst e; rw [if_pos rfl, if_pos (by omega), if_pos (by omega)]
    · rw [if_neg (by omega), h.part q hq]
      by_cases e2 : q < p
      · rw [if_pos e2, if_pos (by omega)]
      · rw [if_neg e2, if_neg (by omega)]
theorem PRow.keep {m k : Img} {n p : Nat} {c : Array Value} (h : PRow m k n p c) (e : Img.partAs m k n p = m.part n p) : PRow m k n (p + 1) c := by
  refine ⟨h.size, h.c0, h.c1, h.c2, fun q hq => ?_⟩
  rw [h.part q hq]
  by_cases e1 : q = p
  · subst e1; rw [if_neg (by omega), if_pos (by omega), e]
  · by_cases e2 : q < p
    · rw [if_pos e2, if_pos (by omega)]
    · rw [if_neg e2, if_neg (by omega)]
theorem PRow.start (m k : Img) (n : Nat) : PRow m k n 0 #[.bool true, .int .i64 (m.stamp n), .int .i64 (Img.uni m k n : Nat), .int .i64 (m.part n 0), .int .i64 (m.part n 1)] := by
  refine ⟨rfl, rfl, rfl, rfl, fun q hq => ?_⟩
  match q, hq with
  | 0, _ => rfl
  | 1, _ => rfl
theorem PRow.done {m k : Img} {n : Nat} {c : Array Value} (h : PRow m k n 2 c) : c = #[.bool true, .int .i64 (m.stamp n), .int .i64 (Img.uni m k n : Nat), .int .i64 (Img.partAs m k n 0), .int .i64 (Img.partAs m k n 1)] := by
  refine Array.ext_getElem? fun j => ?_
  by_cases hj : j < 5
  · match j, hj with
    | 0, _ => exact h.c0
    | 1, _ => exact h.c1
    | 2, _ => exact h.c2
    | 3, _ => exact (h.part 0 (by omega)).trans rfl
    | 4, _ => exact (h.part 1 (by omega)).trans rfl
  · rw [Array.getElem?_eq_none (by rw [h.size]; omega), Array.getElem?_eq_none (by simp; omega)]
set_option maxRecDepth 100000 in
set_option maxHeartbeats 4000000 in
theorem rInode_live (b c : Nat) (m k : Img) (n : Nat) (hn : n < 8) (w : World) (hm : HasImg w b m) (hk : HasImg w c k) (hl : m.live n = true) :
    Calls Tryz.prog 103 #[.pointer (some ⟨b, 0, none⟩), .pointer (some ⟨c, 0, none⟩), .int .i64 n] w fun e w' => e = .returned (inoV (Img.inodeAs m k n)) ∧ Below w.heap.size w w' := by
  have E := hide (show Img.inodeAs m k n = ⟨true, m.stamp n, Img.uni m k n, Img.partAs m k n 0, Img.partAs m k n 1⟩ by unfold Img.inodeAs; rw [if_pos hl])
  have hlv := hm.live n hn
  rw [hl] at hlv
  have hst := hm.stamp n hn
  have hln := hm.links n hn
  have hp0 := hm.part n 0 hn (by omega)
  have hp1 := hm.part n 1 hn (by omega)
  have hu := Img.uni_le m k n
  have hlb := hm.lt
  have hlc := hk.lt
  have hb1 : Below w.heap.size w (w.alloc (.cells #[.bool false, .int .i64 0, .int .i64 0, .int .i64 0, .int .i64 0] 34)) := (Below.refl _ _).alloc (Nat.le_refl _) _
  have hb2 := hb1.alloc (by simp) (.cells #[.bool true, .int .i64 (m.stamp n), .int .i64 (m.links n), .int .i64 (m.part n 0), .int .i64 (m.part n 1)] 34)
  have C := hide (both_any b c m k (n : Int) _ (hm.below hb2 hlb) (hk.below hb2 hlc))
  have T0 := hide (TwoT.start w 34 34 ino0 #[.bool true, .int .i64 (m.stamp n), .int .i64 (Img.uni m k n : Nat), .int .i64 (m.part n 0), .int .i64 (m.part n 1)])
  clear hl
  go_enter Tryz.func103, Tryz.ntmps103
  go_wp2_with fail
  refine (unhide C).mono ?_
  rintro e wz ⟨rfl, ez⟩
  rw [ez]
  clear ez wz C
  go_wp2_with fail
  go_loopw [8] (fun i wr => ∃ p : Nat, p ≤ 2 ∧ i = .int .i64 p ∧ ∃ c1, TwoT 34 34 w wr (w.heap.size + 1) ino0 c1 ∧ PRow m k n p c1) (fun i _ => 2 - (intOf i).toNat)
  case atStart => exact ⟨0, by omega, rfl, _, unhide T0, PRow.start m k n⟩
  case round =>
    clear T0
    obtain ⟨p, hp, rfl, c1, ht, hP⟩ := hrel
    have T := hide ht
    clear ht
    by_cases hlp : p < 2
    · have HK := hide (hk.below (unhide T).below hlc)
      have x3 : wr.cell? ⟨w.heap.size + 1, 3 + p, none⟩ = some (.int .i64 (m.part n p)) := by rw [cell_of_row _ _ _ _ _ _ (unhide T).b1, hP.part p hlp, if_neg (by omega)]
      have x1 : wr.cell? ⟨w.heap.size + 1, 1, none⟩ = some (.int .i64 (m.stamp n)) := by rw [cell_of_row _ _ _ _ _ _ (unhide T).b1]; exact hP.c1
      have fz : ∀ i, wr.frozen? ⟨w.heap.size + 1, i, none⟩ = false := fun i => frozen_of_row _ _ _ _ _ (unhide T).b1
      have kl := (unhide HK).live n hn
      have ks := (unhide HK).stamp n hn
      have kp := (unhide HK).part n p hn hlp
      have PP := hide (hP.put hlp)
      have HP := hide hP
      clear hP
      cases h1 : Img.isD (m.part n p)
      · have e : Img.partAs m k n p = -1 := by unfold Img.partAs; rw [if_pos h1]
        rw [e] at PP
        have PW := PP
        have hb : m.part n p < 0 ∨ 9 ≤ m.part n p := by simp [Img.isD] at h1; omega
        clear e h1
        by_cases h0 : m.part n p < 0
        · have t0 : decide (m.part n p < 0) = true := by simp; omega
          clear hb
          go_wp2_with fail
          go_roundw
          case rel => exact ⟨p + 1, by omega, by go_num, _, by first | exact (unhide T).set _ _ | exact ((unhide T).draw _).set _ _ | exact (((unhide T).draw _).draw _).set _ _, unhide PW⟩
          case measure => simp [intOf]; omega
        · have t0 : decide (m.part n p < 0) = false := by simp; omega
          have t9 : decide (9 ≤ m.part n p) = true := by simp; omega
          clear hb
          go_wp2_with fail
          go_roundw
          case rel => exact ⟨p + 1, by omega, by go_num, _, by first | exact (unhide T).set _ _ | exact ((unhide T).draw _).set _ _ | exact (((unhide T).draw _).draw _).set _ _, unhide PW⟩
          case measure => simp [intOf]; omega
      · have hb : 0 ≤ m.part n p ∧ m.part n p < 9 := by simpa [Img.isD] using h1
        obtain ⟨x, hx⟩ := Int.eq_ofNat_of_zero_le hb.1
        have hx9 : x < 9 := by omega
        have ko := (unhide HK).of x hx9
        have hD : ¬ Img.isD (m.part n p) = false := by rw [h1]; simp
        have e0 : (m.part n p).toNat = x := by rw [hx]; exact Int.toNat_natCast x
        have t0 : decide ((x : Int) < 0) = false := by simp
        have t9 : decide (9 ≤ (x : Int)) = false := by simp; omega
        clear hb h1
        cases h2 : k.of x == m.stamp n
        · have h2' : k.of (m.part n p).toNat ≠ m.stamp n := by rw [e0]; simpa using h2
          cases h3 : k.live n
          · have e : Img.partAs m k n p = -1 := by unfold Img.partAs; rw [if_neg hD, if_neg h2', if_neg (by rw [h3]; simp)]
            rw [e] at PP
            have PW := PP
            rw [h3] at kl
            rw [hx] at x3
            clear e hD h2' e0 hx h3
            go_wp2_with fail
            go_quiet (fail)
            go_wp2_with fail
            go_quiet (fail)
            go_wp2_with fail
            go_roundw
            case rel => exact ⟨p + 1, by omega, by go_num, _, by first | exact (unhide T).set _ _ | exact ((unhide T).draw _).set _ _ | exact (((unhide T).draw _).draw _).set _ _, unhide PW⟩
            case measure => simp [intOf]; omega
          · rw [h3] at kl
            cases h4 : k.stamp n == m.stamp n
            · have e : Img.partAs m k n p = -1 := by unfold Img.partAs; rw [if_neg hD, if_neg h2', if_neg (fun z => by rw [z.2] at h4; simp at h4)]
              rw [e] at PP
              have PW := PP
              rw [hx] at x3
              clear e hD h2' e0 hx h3
              go_wp2_with fail
              go_quiet (fail)
              go_wp2_with fail
              go_quiet (fail)
              go_wp2_with fail
              go_roundw
              case rel => exact ⟨p + 1, by omega, by go_num, _, by first | exact (unhide T).set _ _ | exact ((unhide T).draw _).set _ _ | exact (((unhide T).draw _).draw _).set _ _, unhide PW⟩
              case measure => simp [intOf]; omega
            · have e : Img.partAs m k n p = k.part n p := by unfold Img.partAs; rw [if_neg hD, if_neg h2', if_pos ⟨h3, by simpa using h4⟩]
              rw [e] at PP
              have PW := PP
              rw [hx] at x3
              clear e hD h2' e0 hx h3
              go_wp2_with fail
              go_quiet (fail)
              go_wp2_with fail
              go_quiet (fail)
              go_wp2_with fail
              go_roundw
              case rel => exact ⟨p + 1, by omega, by go_num, _, by first | exact (unhide T).set _ _ | exact ((unhide T).draw _).set _ _ | exact (((unhide T).draw _).draw _).set _ _, unhide PW⟩
              case measure => simp [intOf]; omega
        · have PW := hide ((unhide HP).keep (show Img.partAs m k n p = m.part n p by unfold Img.partAs; rw [if_neg hD, if_pos (by rw [e0]; simpa using h2)]))
          rw [hx] at x3
          clear hD e0 hx
          go_wp2_with fail
          go_quiet (fail)
          go_wp2_with fail
          go_roundw
          case rel => exact ⟨p + 1, by omega, by go_num, _, by first | exact unhide T | exact (unhide T).draw _ | exact ((unhide T).draw _).draw _, unhide PW⟩
          case measure => simp [intOf]; omega
    · have e : p = 2 := by omega
      subst e
      have hc := hP.done
      subst hc
      have y0 : wr.cell? ⟨w.heap.size + 1, 0, none⟩ = some (.bool true) := by rw [cell_of_row _ _ _ _ _ _ (unhide T).b1]; rfl
      have y1 : wr.cell? ⟨w.heap.size + 1, 1, none⟩ = some (.int .i64 (m.stamp n)) := by rw [cell_of_row _ _ _ _ _ _ (unhide T).b1]; rfl
      have y2 : wr.cell? ⟨w.heap.size + 1, 2, none⟩ = some (.int .i64 (Img.uni m k n : Nat)) := by rw [cell_of_row _ _ _ _ _ _ (unhide T).b1]; rfl
      have y3 : wr.cell? ⟨w.heap.size + 1, 3, none⟩ = some (.int .i64 (Img.partAs m k n 0)) := by rw [cell_of_row _ _ _ _ _ _ (unhide T).b1]; rfl
      have y4 : wr.cell? ⟨w.heap.size + 1, 4, none⟩ = some (.int .i64 (Img.partAs m k n 1)) := by rw [cell_of_row _ _ _ _ _ _ (unhide T).b1]; rfl
      have z0 : wr.cell? ⟨w.heap.size, 0, none⟩ = some (.bool false) := by rw [cell_of_row _ _ _ _ _ _ (unhide T).b0]; rfl
      have z1 : wr.cell? ⟨w.heap.size, 1, none⟩ = some (.int .i64 0) := by rw [cell_of_row _ _ _ _ _ _ (unhide T).b0]; rfl
      have z2 : wr.cell? ⟨w.heap.size, 2, none⟩ = some (.int .i64 0) := by rw [cell_of_row _ _ _ _ _ _ (unhide T).b0]; rfl
      have z3 : wr.cell? ⟨w.heap.size, 3, none⟩ = some (.int .i64 0) := by rw [cell_of_row _ _ _ _ _ _ (unhide T).b0]; rfl
      have z4 : wr.cell? ⟨w.heap.size, 4, none⟩ = some (.int .i64 0) := by rw [cell_of_row _ _ _ _ _ _ (unhide T).b0]; rfl
      have fz : ∀ i, wr.frozen? ⟨w.heap.size, i, none⟩ = false := fun i => frozen_of_row _ _ _ _ _ (unhide T).b0
      go_wp2_with fail
      rw [unhide E]
      have T2 := (unhide T).ret5 (.bool true) (.int .i64 (m.stamp n)) (.int .i64 (Img.uni m k n : Nat)) (.int .i64 (Img.partAs m k n 0)) (.int .i64 (Img.partAs m k n 1))
      refine bodyPost_ret (v := inoV ⟨true, m.stamp n, Img.uni m k n, Img.partAs m k n 0, Img.partAs m k n 1⟩) ?_ rfl ⟨rfl, T2.below⟩
      exact results_cell_row (P := Tryz.prog) Tryz.results103 _ _ w.heap.size 34 _ (0, 0) _ rfl T2.b0 ino_under rfl ino_info
theorem rInode_any (b c : Nat) (m k : Img) (n : Nat) (hn : n < 8) (w : World) (hm : HasImg w b m) (hk : HasImg w c k) :
    Calls Tryz.prog 103 #[.pointer (some ⟨b, 0, none⟩), .pointer (some ⟨c, 0, none⟩), .int .i64 n] w fun e w' => e = .returned (inoV (Img.inodeAs m k n)) ∧ Below w.heap.size w w' := by
  cases h : m.live n
  · exact rInode_dead b c m k n hn w hm hk h
  · exact rInode_live b c m k n hn w hm hk h
end Go.Proofs.YtmbpckmpnnmnmacGreat
