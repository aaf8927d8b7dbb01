/-
  The walk of eiderdownref.Great: where it answers false the texts are short.
-/
import Derived.Test.YtlbgkpibaahglacDoorWl
import Derived.Test.YtlbgkpibaahglacDoorKe
namespace Go.Proofs.YtlbgkpibaahglacDoor
open Go.RowKit
/-- texts that are short -/
structure Short (m : Img) : Prop where
  name : ∀ d s, d < 3 → s < 4 → (m.name d s).size ≤ 3000
  text : ∀ x, x < 9 → (m.text x).size ≤ 3000
def GreatIs (m : Img) (e : Ending) : Prop := ∃ v : Bool, e = .returned (.bool v) ∧ (v = false → Short m)
def UpD (m : Img) (d : Nat) (v : Int) : Prop := ∀ d' s, d' < d → s < 4 → min ((m.name d' s).size : Int) 10000 ≤ v
def UpS (m : Img) (d s : Nat) (v : Int) : Prop := UpD m d v ∧ ∀ s', s' < s → min ((m.name d s').size : Int) 10000 ≤ v
def UpX (m : Img) (x : Nat) (v : Int) : Prop := UpD m 3 v ∧ ∀ x', x' < x → min ((m.text x').size : Int) 10000 ≤ v
theorem UpD.mono {m : Img} {d : Nat} {v u : Int} (h : UpD m d v) (hu : v ≤ u) : UpD m d u := fun d' s hd hs => Int.le_trans (h d' s hd hs) hu
theorem UpS.next {m : Img} {d s : Nat} {v : Int} (h : UpS m d s v) (h0 : 0 ≤ v) : UpS m d (s + 1) (v + min ((m.name d s).size : Int) 10000) := by
  have h1 : 0 ≤ min ((m.name d s).size : Int) 10000 := by omega
  refine ⟨h.1.mono (by omega), fun s' hs => ?_⟩
  by_cases e : s' = s
  · subst e
    omega
  · have := h.2 s' (by omega)
    omega
theorem UpS.last {m : Img} {d : Nat} {v : Int} (h : UpS m d 4 v) : UpD m (d + 1) v := fun d' s hd hs => by
  by_cases e : d' = d
  · subst e; exact h.2 s hs
  · exact h.1 d' s (by omega) hs
theorem UpX.next {m : Img} {x : Nat} {v : Int} (h : UpX m x v) (h0 : 0 ≤ v) : UpX m (x + 1) (v + min ((m.text x).size : Int) 10000) := by
  have h1 : 0 ≤ min ((m.text x).size : Int) 10000 := by omega
  refine ⟨h.1.mono (by omega), fun s' hs => ?_⟩
  by_cases e : s' = x
  · subst e
    omega
  · have := h.2 s' (by omega)
    omega
theorem UpX.short {m : Img} {v : Int} (h : UpX m 9 v) (hv : v ≤ 3000) : Short m :=
  ⟨fun d s hd hs => by have := h.1 d s hd hs; omega, fun x hx => by have := h.2 x hx; omega⟩
set_option maxHeartbeats 1000000 in
theorem great8_any (cs : Array Value) (m : Img) (hc : IsImg cs m) (w : World) :
    Calls Tryd.prog 6 #[.agg cs] w fun e w' => GreatIs m e ∧ Below w.heap.size w w' := by
  have hm := hc.has w 34
  have hn := hm.name
  have ht := hm.text
  have hsm := hm.small
  have hsh := hm.short
  unfold maxLen at hsm hsh
  go_enter Tryd.func6, Tryd.ntmps6
  go_wp2
  go_loop [3, 4] (fun c i => ∃ (d : Nat) (v : Int), d ≤ 3 ∧ i = .int .i64 d ∧ c = .int .i64 v ∧ 0 ≤ v ∧ v ≤ 40000 * d ∧ Hid (UpD m d v)) (fun _ i => 3 - (intOf i).toNat)
  case atStart => exact ⟨0, 0, by omega, rfl, rfl, by omega, by omega, hide fun d' s h => by omega⟩
  case round =>
    obtain ⟨d, v, hd, rfl, rfl, hv0, hv1, HU⟩ := hrel
    by_cases hlt : d < 3
    · have hd3 : decide ((d : Int) < 3) = true := by simp; omega
      go_wp2
      go_loop [3, 5] (fun c i => ∃ (s : Nat) (v : Int), s ≤ 4 ∧ i = .int .i64 s ∧ c = .int .i64 v ∧ 0 ≤ v ∧ v ≤ 40000 * d + 10000 * s ∧ Hid (UpS m d s v)) (fun _ i => 4 - (intOf i).toNat)
      case atStart => exact ⟨0, v, by omega, rfl, rfl, by omega, by omega, hide ⟨unhide HU, fun s' h => by omega⟩⟩
      case round =>
        clear hv0 hv1 HU
        obtain ⟨s, v, hs, rfl, rfl, hv0, hv1, HU⟩ := hrel
        have hsz := hsm d s
        by_cases hls : s < 4
        · have HN := hide ((unhide HU).next hv0)
          go_wp2
          refine ⟨⟨s + 1, v + min ((m.name d s).size : Int) 10000, by omega, by go_num, rfl, ?_, ?_, HN⟩, by simp [intOf]; omega⟩ <;> omega
        · have e : s = 4 := by omega
          subst e
          go_wp2
          go_round
          case rel => exact ⟨d + 1, v, by omega, by go_num, rfl, by omega, by omega, hide (unhide HU).last⟩
          case measure => simp [intOf]; omega
    · have hd3 : decide ((d : Int) < 3) = false := by simp; omega
      have e3 : d = 3 := by omega
      subst e3
      have hd12 : v ≤ 120000 := by omega
      clear hv1
      go_wp2
      go_loop [3, 6] (fun c i => ∃ (x : Nat) (v : Int), x ≤ 9 ∧ i = .int .i64 x ∧ c = .int .i64 v ∧ 0 ≤ v ∧ v ≤ 120000 + 10000 * x ∧ Hid (UpX m x v)) (fun _ i => 9 - (intOf i).toNat)
      case atStart => exact ⟨0, v, by omega, rfl, rfl, by omega, by omega, hide ⟨unhide HU, fun s' h => by omega⟩⟩
      case round =>
        clear hv0 hd12 HU
        obtain ⟨x, v, hx, rfl, rfl, hv0, hv1, HU⟩ := hrel
        have hsz := hsh x
        by_cases hlx : x < 9
        · have HN := hide ((unhide HU).next hv0)
          go_wp2
          refine ⟨⟨x + 1, v + min ((m.text x).size : Int) 10000, by omega, by go_num, rfl, ?_, ?_, HN⟩, by simp [intOf]; omega⟩ <;> omega
        · have e9 : x = 9 := by omega
          subst e9
          go_wp2
          go_ret
          exact ⟨⟨_, rfl, fun z => (unhide HU).short (by simpa using z)⟩, (Below.refl _ _).alloc (Nat.le_refl _) _⟩
end Go.Proofs.YtlbgkpibaahglacDoor
