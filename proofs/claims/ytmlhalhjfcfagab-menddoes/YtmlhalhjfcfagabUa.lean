/-
  An image in memory, from some place of a block on; the walk of eiderdownref.Held.
-/
import Derived.Test.YtmlhalhjfcfagabTr
namespace Go.Proofs.Ytmlhalhjfcfagab
open Go.RowKit
structure HasAt (w : World) (b o : Nat) (m : Img) : Prop where
  lt : b < w.heap.size
  live : ∀ n : Nat, n < 8 → w.cell? ⟨b, o + n * 5, none⟩ = some (.bool (m.live n))
  stamp : ∀ n : Nat, n < 8 → w.cell? ⟨b, o + n * 5 + 1, none⟩ = some (.int .i64 (m.stamp n))
  links : ∀ n : Nat, n < 8 → w.cell? ⟨b, o + n * 5 + 2, none⟩ = some (.int .i64 (m.links n))
  part : ∀ n p : Nat, n < 8 → p < 2 → w.cell? ⟨b, o + n * 5 + 3 + p, none⟩ = some (.int .i64 (m.part n p))
  name : ∀ d s : Nat, d < 3 → s < 4 → w.cell? ⟨b, o + 40 + d * 12 + s * 3, none⟩ = some (.string (m.name d s))
  ino : ∀ d s : Nat, d < 3 → s < 4 → w.cell? ⟨b, o + 40 + d * 12 + s * 3 + 1, none⟩ = some (.int .i64 (m.ino d s))
  est : ∀ d s : Nat, d < 3 → s < 4 → w.cell? ⟨b, o + 40 + d * 12 + s * 3 + 2, none⟩ = some (.int .i64 (m.est d s))
  of : ∀ x : Nat, x < 9 → w.cell? ⟨b, o + 76 + x * 2, none⟩ = some (.int .i64 (m.of x))
  text : ∀ x : Nat, x < 9 → w.cell? ⟨b, o + 76 + x * 2 + 1, none⟩ = some (.string (m.text x))
  small : ∀ d s : Nat, (m.name d s).size ≤ maxLen
  short : ∀ x : Nat, (m.text x).size ≤ maxLen
theorem HasAt.below {w w' : World} {b o : Nat} {m : Img} {B : Nat} (h : HasAt w b o m) (hb : Below B w w') (hB : b < B) : HasAt w' b o m := by
  have hc : ∀ o, w'.cell? ⟨b, o, none⟩ = w.cell? ⟨b, o, none⟩ := fun o => hb.cell (p := ⟨b, o, none⟩) hB
  have hs := hb.size
  have hl := h.lt
  exact ⟨by omega, fun n h1 => by rw [hc]; exact h.live n h1, fun n h1 => by rw [hc]; exact h.stamp n h1, fun n h1 => by rw [hc]; exact h.links n h1,
    fun n p h1 h2 => by rw [hc]; exact h.part n p h1 h2, fun d s h1 h2 => by rw [hc]; exact h.name d s h1 h2, fun d s h1 h2 => by rw [hc]; exact h.ino d s h1 h2,
    fun d s h1 h2 => by rw [hc]; exact h.est d s h1 h2, fun x h1 => by rw [hc]; exact h.of x h1, fun x h1 => by rw [hc]; exact h.text x h1, h.small, h.short⟩
theorem HasImg.at {w : World} {b : Nat} {m : Img} (h : HasImg w b m) : HasAt w b 0 m :=
  ⟨h.lt, fun n h1 => by rw [Nat.zero_add]; exact h.live n h1, fun n h1 => by rw [Nat.zero_add]; exact h.stamp n h1, fun n h1 => by rw [Nat.zero_add]; exact h.links n h1,
    fun n p h1 h2 => by rw [Nat.zero_add]; exact h.part n p h1 h2, fun d s h1 h2 => by rw [Nat.zero_add]; exact h.name d s h1 h2, fun d s h1 h2 => by rw [Nat.zero_add]; exact h.ino d s h1 h2,
    fun d s h1 h2 => by rw [Nat.zero_add]; exact h.est d s h1 h2, fun x h1 => by rw [Nat.zero_add]; exact h.of x h1, fun x h1 => by rw [Nat.zero_add]; exact h.text x h1, h.small, h.short⟩
/-- a part of a live inode is x -/
def Img.held (m : Img) (x : Int) : Bool := Img.anyB (fun n => m.live n && m.hasPart n x) 8
theorem Img.held_isD {m : Img} {x : Nat} (h : x < 9) : m.held x = m.holds x := by
  unfold Img.held Img.holds
  rw [show Img.isD (x : Int) = true by simp [Img.isD]; omega]; rfl
set_option maxHeartbeats 800000 in
theorem rHeld_any {ob : Nat} (b : Nat) (m : Img) (x : Int) (w : World) (hm : HasAt w b ob m) :
    Calls Try.prog 35 #[.pointer (some ⟨b, ob, none⟩), .int .i64 x] w fun e w' => e = .returned (.bool (m.held x)) ∧ w' = w := by
  have E : m.held x = Img.anyB (fun n => m.live n && m.hasPart n x) 8 := rfl
  have HE := hide E
  clear E
  go_enter Try.func35, Try.ntmps35
  go_wp2_with fail
  go_loop [5] (fun i => ∃ k : Nat, k ≤ 8 ∧ i = .int .i64 k ∧ ∀ j, j < k → (m.live j && m.hasPart j x) = false) (fun i => 8 - (intOf i).toNat)
  case atStart => exact ⟨0, by omega, rfl, fun j hj => by omega⟩
  case round =>
    obtain ⟨k, hk, rfl, hall⟩ := hrel
    have H := hide hall
    clear hall
    by_cases hlt : k < 8
    · have t8 : decide ((k : Int) < 8) = true := by simp; omega
      have hlv := hm.live k hlt
      have hp0 := hm.part k 0 hlt (by omega)
      have hp1 := hm.part k 1 hlt (by omega)
      have S := hide (show (m.live k && m.hasPart k x) = false → ∀ j, j < k + 1 → (m.live j && m.hasPart j x) = false from fun h j hj => by
        by_cases e : j = k
        · subst e; exact h
        · exact unhide H j (by omega))
      have Y := hide (show (m.live k && m.hasPart k x) = true → m.held x = true from fun h => by rw [unhide HE]; exact Img.anyB_true hlt h)
      have hpt := hm.part k
      have P := hide (show m.hasPart k x = (m.part k 0 == x || m.part k 1 == x) from rfl)
      go_wp2_with fail
      go_loop [6] (fun i => ∃ p : Nat, p ≤ 2 ∧ i = .int .i64 p ∧ (m.live k = false ∨ ∀ q, q < p → (m.part k q == x) = false)) (fun i => 2 - (intOf i).toNat)
      case atStart => exact ⟨0, by omega, rfl, .inr fun q hq => by omega⟩
      case round =>
        obtain ⟨p, hp, rfl, hq⟩ := hrel
        have HQ := hide hq
        clear hq
        by_cases hlp : p < 2
        · have t2 : decide ((p : Int) < 2) = true := by simp; omega
          have hpp := hpt p hlt hlp
          clear hpt hp0 hp1
          cases hl : m.live k
          · rw [hl] at hlv
            go_wp2_with fail
            exact ⟨⟨p + 1, by omega, by go_num, by first | exact .inl hl | exact .inl trivial⟩, by simp [intOf]; omega⟩
          · rw [hl] at hlv
            cases he : (m.part k p == x)
            · go_wp2_with fail
              refine ⟨⟨p + 1, by omega, by go_num, .inr fun q hq => ?_⟩, by simp [intOf]; omega⟩
              by_cases e : q = p
              · subst e; exact he
              · rcases unhide HQ with z | z
                · rw [hl] at z; cases z
                · exact z q (by omega)
            · have Z := hide (unhide Y (by
                rw [hl, unhide P]
                match p, hlp with
                | 0, _ => rw [he]; rfl
                | 1, _ => rw [he]; simp))
              go_wp2_with fail
              go_ret
              exact ⟨ret_bool (unhide Z).symm, rfl⟩
        · have t2 : decide ((p : Int) < 2) = false := by simp; omega
          go_wp2_with fail
          refine ⟨⟨k + 1, by omega, by go_num, unhide S ?_⟩, by simp [intOf]; omega⟩
          rcases unhide HQ with z | z
          · rw [z]; rfl
          · rw [unhide P, z 0 (by omega), z 1 (by omega)]; simp
    · have t8 : decide ((k : Int) < 8) = false := by simp; omega
      go_wp2_with fail
      go_ret
      exact ⟨ret_bool (by rw [unhide HE]; exact (Img.anyB_false.2 fun j hj => unhide H j (by omega)).symm), rfl⟩
end Go.Proofs.Ytmlhalhjfcfagab
