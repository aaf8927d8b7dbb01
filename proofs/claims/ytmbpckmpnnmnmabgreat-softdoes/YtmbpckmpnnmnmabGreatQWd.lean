/-
  The walks of image.checkSlot (joined), stampTwice, dataTwice.
-/
import Derived.Test.YtmbpckmpnnmnmabGreatQWc
namespace Go.Proofs.YtmbpckmpnnmnmabGreat
open Go.RowKit
theorem slot_any (b : Nat) (m : Img) (d s : Nat) (hd : d < 3) (hs : s < 4) (w : World) (hm : HasImg w b m) :
    Calls Tryz.prog 89 #[.pointer (some ⟨b, 0, none⟩), .int .i64 d, .int .i64 s] w fun e w' => e = .returned (.int .i64 (m.checkSlot d s)) ∧ Below w.heap.size w w' := by
  cases h : m.named d s
  · exact slot_empty b m d s hd hs w hm h
  · exact slot_named b m d s hd hs w hm h
theorem drewNN (w : World) (a b : Nat) : (w.drewN a).drewN b = w.drewN (a + b) := by simp [World.drewN, Nat.add_assoc]
def tw (m : Img) (n k : Nat) : Bool := m.live n && m.live k && m.stamp n == m.stamp k
theorem forall_succ {p : Nat → Prop} {k : Nat} (h : ∀ j, j < k → p j) (hk : p k) : ∀ j, j < k + 1 → p j := fun j hj => by
  by_cases e : j = k
  · subst e; exact hk
  · exact h j (by omega)
set_option maxHeartbeats 1000000 in
theorem stampTwice_any (b : Nat) (m : Img) (w : World) (hm : HasImg w b m) :
    Calls Tryz.prog 91 #[.pointer (some ⟨b, 0, none⟩)] w fun e w' => e = .returned (.bool m.stampTwice) ∧ ∃ q, w' = w.drewN q := by
  have hlv := hm.live
  have hst := hm.stamp
  go_enter Tryz.func91, Tryz.ntmps91
  go_wp2
  go_loopw [5] (fun i wr => ∃ n q : Nat, n ≤ 8 ∧ i = .int .i64 n ∧ wr = w.drewN q ∧ ∀ j, j < n → Img.anyB (tw m j) j = false) (fun i _ => 8 - (intOf i).toNat)
  case atStart => exact ⟨0, 0, by omega, rfl, rfl, fun j hj => by omega⟩
  case round =>
    obtain ⟨n, q, hn, rfl, rfl, hall⟩ := hrel
    have H := hide hall
    clear hall
    by_cases hlt : n < 8
    · go_wp2
      go_loopw [9] (fun i wr => ∃ k q : Nat, k ≤ n ∧ i = .int .i64 k ∧ wr = w.drewN q ∧ ∀ j, j < k → tw m n j = false) (fun i _ => n - (intOf i).toNat)
      case atStart => exact ⟨0, q, by omega, rfl, rfl, fun j hj => by omega⟩
      case round =>
        obtain ⟨k, q, hk, rfl, rfl, hall⟩ := hrel
        have H2 := hide hall
        clear hall
        by_cases hkn : k < n
        · have hln := hlv n hlt
          have hlk := hlv k (by omega)
          have hsn := hst n hlt
          have hsk := hst k (by omega)
          cases gn : m.live n
          · rw [gn] at hln
            have E := hide (show tw m n k = false by unfold tw; rw [gn]; rfl)
            go_wp2
            go_quiet (fail)
            go_wp2
            go_roundw
            case rel => exact ⟨k + 1, _, by omega, by go_num, rfl, forall_succ (unhide H2) (unhide E)⟩
            case measure => simp [intOf]; omega
          rw [gn] at hln
          cases gk : m.live k
          · rw [gk] at hlk
            have E := hide (show tw m n k = false by unfold tw; rw [gk, Bool.and_false]; rfl)
            go_wp2
            go_quiet (fail)
            go_wp2
            go_roundw
            case rel => exact ⟨k + 1, _, by omega, by go_num, rfl, forall_succ (unhide H2) (unhide E)⟩
            case measure => simp [intOf]; omega
          rw [gk] at hlk
          cases ge : m.stamp n == m.stamp k
          · have E := hide (show tw m n k = false by unfold tw; rw [ge, Bool.and_false])
            go_wp2
            go_quiet (fail)
            go_wp2
            go_roundw
            case rel => exact ⟨k + 1, _, by omega, by go_num, rfl, forall_succ (unhide H2) (unhide E)⟩
            case measure => simp [intOf]; omega
          · have E := hide (show tw m n k = true by unfold tw; rw [gn, gk, ge]; rfl)
            go_wp2
            go_quiet (fail)
            go_wp2
            go_ret
            exact ⟨ret_bool (Img.anyB_true (p := fun n => Img.anyB (tw m n) n) hlt (Img.anyB_true hkn (unhide E))).symm, _, drewNN _ _ _⟩
        · have e : k = n := by omega
          subst e
          go_wp2
          go_roundw
          case rel => exact ⟨k + 1, q, by omega, by go_num, rfl, forall_succ (unhide H) (Img.anyB_false.2 (unhide H2))⟩
          case measure => simp [intOf]; omega
    · have e : n = 8 := by omega
      subst e
      go_wp2
      go_ret
      exact ⟨ret_bool (Img.anyB_false.2 (unhide H) : Img.anyB (fun n => Img.anyB (tw m n) n) 8 = false).symm, q, rfl⟩
/-- a part that was met -/
def dup (m : Img) (t : Nat) : Bool := Img.isD (m.pa t) && Img.anyB (fun u => m.pa u == m.pa t) t
/-- 'held' behind t parts -/
structure Held (w : World) (m : Img) (t : Nat) (wr : World) : Prop where
  below : Below w.heap.size w wr
  size : w.heap.size < wr.heap.size
  cell : ∀ x : Nat, x < 9 → wr.cell? ⟨w.heap.size, x, none⟩ = some (.bool (Img.anyB (fun u => m.pa u == (x : Int)) t))
  frozen : ∀ x : Nat, wr.frozen? ⟨w.heap.size, x, none⟩ = false
theorem Held.skip {w : World} {m : Img} {t : Nat} {wr : World} (h : Held w m t wr) (hd : Img.isD (m.pa t) = false) : Held w m (t + 1) wr :=
  ⟨h.below, h.size, fun x hx => by
    have e : (m.pa t == (x : Int)) = false := by
      cases e : m.pa t == (x : Int)
      · rfl
      · have e2 : m.pa t = x := by simpa using e
        rw [e2] at hd; simp [Img.isD] at hd; omega
    rw [h.cell x hx]; unfold Img.anyB; rw [e, Bool.or_false]; cases t <;> rfl, h.frozen⟩
theorem Held.put {w : World} {m : Img} {t : Nat} {wr : World} (h : Held w m t wr) {k : Nat} (hk : k < 9) (hp : m.pa t = k) : Held w m (t + 1) (wr.setCell ⟨w.heap.size, k, none⟩ (.bool true)) := by
  refine ⟨h.below.setCell (Nat.le_refl _) _, by simpa using h.size, fun x hx => ?_, fun x => by simpa using h.frozen x⟩
  have en : ∀ x : Nat, Img.anyB (fun u => m.pa u == (x : Int)) (t + 1) = (Img.anyB (fun u => m.pa u == (x : Int)) t || (m.pa t == (x : Int))) := fun _ => rfl
  by_cases e : k = x
  · subst e
    rw [World.cell?_setCell_same _ _ _ (h.cell k hk), en, hp]; simp
  · rw [World.cell?_setCell_other _ _ _ _ (fun x => e (by injection x)), h.cell x hx, en, hp]
    have : ((k : Int) == (x : Int)) = false := by simp; omega
    rw [this, Bool.or_false]
theorem pa_live {m : Img} {n p : Nat} (hp : p < 2) (h : m.live n = true) : m.pa (2 * n + p) = m.part n p := by
  unfold Img.pa
  rw [show (2 * n + p) / 2 = n by omega, show (2 * n + p) % 2 = p by omega, h]; rfl
theorem pa_dead {m : Img} {n p : Nat} (hp : p < 2) (h : m.live n = false) : m.pa (2 * n + p) = -1 := by
  unfold Img.pa
  rw [show (2 * n + p) / 2 = n by omega, h]; rfl
theorem Held.dead {w : World} {m : Img} {n : Nat} {wr : World} (h : Held w m (2 * n) wr) (hl : m.live n = false) : Held w m (2 * (n + 1)) wr := by
  have h1 := h.skip (by have := pa_dead (p := 0) (by omega) hl; rw [Nat.add_zero] at this; rw [this]; rfl)
  exact h1.skip (by rw [pa_dead (p := 1) (by omega) hl]; rfl)
theorem dup_dead {m : Img} {n p : Nat} (hp : p < 2) (h : m.live n = false) : dup m (2 * n + p) = false := by unfold dup; rw [pa_dead hp h]; rfl
theorem dups_dead {m : Img} {n : Nat} (h : m.live n = false) (ha : ∀ j, j < 2 * n → dup m j = false) : ∀ j, j < 2 * (n + 1) → dup m j = false := fun j hj => by
  by_cases e : j < 2 * n
  · exact ha j e
  · have := dup_dead (m := m) (n := n) (p := j - 2 * n) (by omega) h
    rwa [show 2 * n + (j - 2 * n) = j by omega] at this
theorem idx2 (f : Nat → Int) (p : Nat) (hp : p < 2) (w : World) : (Instr.index 22 (.agg #[.int .i64 (f 0), .int .i64 (f 1)]) (.int .i64 (p : Int))).run Tryz.prog w = .ok (.int .i64 (f p)) w :=
  match p, hp with
  | 0, _ => by kernel_rfl
  | 1, _ => by kernel_rfl
theorem held0 (w : World) (m : Img) : Held w m 0 (w.alloc (.cells #[.bool false, .bool false, .bool false, .bool false, .bool false, .bool false, .bool false, .bool false, .bool false] 143)) := by
  refine ⟨(Below.refl _ _).alloc (Nat.le_refl _) _, by simp, fun x hx => ?_, fun x => by simp⟩
  match x, hx with
  | 0, _ => simp [Img.anyB]
  | 1, _ => simp [Img.anyB]
  | 2, _ => simp [Img.anyB]
  | 3, _ => simp [Img.anyB]
  | 4, _ => simp [Img.anyB]
  | 5, _ => simp [Img.anyB]
  | 6, _ => simp [Img.anyB]
  | 7, _ => simp [Img.anyB]
  | 8, _ => simp [Img.anyB]
set_option maxHeartbeats 1000000 in
theorem dataTwice_any (b : Nat) (m : Img) (w : World) (hm : HasImg w b m) :
    Calls Tryz.prog 92 #[.pointer (some ⟨b, 0, none⟩)] w fun e w' => e = .returned (.bool m.dataTwice) ∧ Below w.heap.size w w' := by
  have hlb := hm.lt
  go_enter Tryz.func92, Tryz.ntmps92
  go_wp2
  go_loopw [7] (fun i wr => ∃ n : Nat, n ≤ 8 ∧ i = .int .i64 n ∧ Held w m (2 * n) wr ∧ ∀ j, j < 2 * n → dup m j = false) (fun i _ => 8 - (intOf i).toNat)
  case atStart => exact ⟨0, by omega, rfl, held0 w m, fun j hj => by omega⟩
  case round =>
    obtain ⟨n, hn, rfl, hheld, hall⟩ := hrel
    have H := hide hall
    clear hall
    have hmr := hm.below hheld.below hlb
    by_cases hlt : n < 8
    · have hln := hmr.live n hlt
      cases gn : m.live n
      · rw [gn] at hln
        go_wp2
        go_roundw
        case rel => exact ⟨n + 1, by omega, by go_num, hheld.dead gn, dups_dead gn (unhide H)⟩
        case measure => simp [intOf]; omega
      · rw [gn] at hln
        have hd8 : decide ((n : Int) < 8) = true := by simp; omega
        have hp0 := hmr.part n 0 hlt (by omega)
        have hp1 := hmr.part n 1 hlt (by omega)
        go_wp2
        go_loopw [25] (fun i wr => ∃ p : Nat, p ≤ 2 ∧ i = .int .i64 p ∧ Held w m (2 * n + p) wr ∧ ∀ j, j < 2 * n + p → dup m j = false) (fun i _ => 2 - (intOf i).toNat)
        case atStart => exact ⟨0, by omega, rfl, hheld, unhide H⟩
        case round =>
          clear hmr hln hp0 hp1 hheld H
          obtain ⟨p, hp, rfl, hheld, hall⟩ := hrel
          have H := hide hall
          clear hall
          by_cases hlp : p < 2
          · have hix := idx2 (m.part n) p hlp
            have hpa := pa_live (m := m) hlp gn
            have HP := hide hpa
            clear hpa
            cases gd : Img.isD (m.part n p)
            · have E := hide (hheld.skip (by rw [unhide HP]; exact gd))
              have E2 := hide (show dup m (2 * n + p) = false by unfold dup; rw [unhide HP, gd]; rfl)
              go_wp2_with (go_at_call 130; refine (isData_any _ _).mono ?_; rw [gd]; rintro e w' ⟨rfl, rfl⟩)
              go_roundw
              case rel => exact ⟨p + 1, by omega, by go_num, unhide E, forall_succ (unhide H) (unhide E2)⟩
              case measure => simp [intOf]; omega
            · have hb : 0 ≤ m.part n p ∧ m.part n p < 9 := by simpa [Img.isD] using gd
              obtain ⟨k, hk⟩ := Int.eq_ofNat_of_zero_le hb.1
              have hk9 : k < 9 := by omega
              clear hb
              have hc := hheld.cell k hk9
              have hf := hheld.frozen k
              rw [hk] at hix gd
              have HK := hide hk
              clear hk
              cases gh : Img.anyB (fun u => m.pa u == (k : Int)) (2 * n + p)
              · rw [gh] at hc
                have E := hide (hheld.put hk9 ((unhide HP).trans (unhide HK)))
                have E2 := hide (show dup m (2 * n + p) = false by unfold dup; rw [unhide HP, unhide HK, gh, Bool.and_false])
                go_wp2_with (go_at_call 130; refine (isData_any _ _).mono ?_; rw [gd]; rintro e w' ⟨rfl, rfl⟩)
                go_roundw
                case rel => exact ⟨p + 1, by omega, by go_num, unhide E, forall_succ (unhide H) (unhide E2)⟩
                case measure => simp [intOf]; omega
              · rw [gh] at hc
                have E2 := hide (show dup m (2 * n + p) = true by unfold dup; rw [unhide HP, unhide HK, gh, gd]; rfl)
                go_wp2_with (go_at_call 130; refine (isData_any _ _).mono ?_; rw [gd]; rintro e w' ⟨rfl, rfl⟩)
                go_ret
                exact ⟨ret_bool (Img.anyB_true (p := dup m) (k := 2 * n + p) (n := 16) (by omega) (unhide E2)).symm, hheld.below⟩
          · have e : p = 2 := by omega
            subst e
            go_wp2
            go_roundw
            case rel => exact ⟨n + 1, by omega, by go_num, hheld, unhide H⟩
            case measure => simp [intOf]; omega
    · have e : n = 8 := by omega
      subst e
      go_wp2
      go_ret
      exact ⟨ret_bool (Img.anyB_false.2 (unhide H) : Img.anyB (dup m) 16 = false).symm, hheld.below⟩
end Go.Proofs.YtmbpckmpnnmnmabGreat
