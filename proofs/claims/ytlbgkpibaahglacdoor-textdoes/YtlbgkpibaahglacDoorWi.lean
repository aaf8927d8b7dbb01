/-
  An image as a value; the walk of eiderdownref.Great.
-/
import Derived.Test.YtlbgkpibaahglacDoorWh
import Derived.Deep.WholeRow
namespace Go.Proofs.YtlbgkpibaahglacDoor
open Go.RowKit
structure IsImg (cs : Array Value) (m : Img) : Prop where
  size : cs.size = 94
  live : ∀ n : Nat, n < 8 → cs[n * 5]? = some (.bool (m.live n))
  stamp : ∀ n : Nat, n < 8 → cs[n * 5 + 1]? = some (.int .i64 (m.stamp n))
  links : ∀ n : Nat, n < 8 → cs[n * 5 + 2]? = some (.int .i64 (m.links n))
  part : ∀ n p : Nat, n < 8 → p < 2 → cs[n * 5 + 3 + p]? = some (.int .i64 (m.part n p))
  name : ∀ d s : Nat, d < 3 → s < 4 → cs[40 + d * 12 + s * 3]? = some (.string (m.name d s))
  ino : ∀ d s : Nat, d < 3 → s < 4 → cs[40 + d * 12 + s * 3 + 1]? = some (.int .i64 (m.ino d s))
  est : ∀ d s : Nat, d < 3 → s < 4 → cs[40 + d * 12 + s * 3 + 2]? = some (.int .i64 (m.est d s))
  of : ∀ x : Nat, x < 9 → cs[76 + x * 2]? = some (.int .i64 (m.of x))
  text : ∀ x : Nat, x < 9 → cs[76 + x * 2 + 1]? = some (.string (m.text x))
  small : ∀ d s : Nat, (m.name d s).size ≤ maxLen
  short : ∀ x : Nat, (m.text x).size ≤ maxLen
theorem IsImg.has {cs : Array Value} {m : Img} (h : IsImg cs m) (w : World) (t : TypeId) : HasImg (w.alloc (.cells cs t)) w.heap.size m := by
  have hc : ∀ i, (w.alloc (.cells cs t)).cell? ⟨w.heap.size, i, none⟩ = cs[i]? := fun i => World.cell?_alloc_new w cs t i
  exact ⟨by simp, fun n h1 => by rw [hc]; exact h.live n h1, fun n h1 => by rw [hc]; exact h.stamp n h1, fun n h1 => by rw [hc]; exact h.links n h1,
    fun n p h1 h2 => by rw [hc]; exact h.part n p h1 h2, fun d s h1 h2 => by rw [hc]; exact h.name d s h1 h2, fun d s h1 h2 => by rw [hc]; exact h.ino d s h1 h2,
    fun d s h1 h2 => by rw [hc]; exact h.est d s h1 h2, fun x h1 => by rw [hc]; exact h.of x h1, fun x h1 => by rw [hc]; exact h.text x h1, h.small, h.short⟩
def SomeBool (e : Ending) : Prop := ∃ v, e = .returned (.bool v)
set_option maxHeartbeats 1000000 in
theorem great_any (cs : Array Value) (m : Img) (hc : IsImg cs m) (w : World) :
    Calls Tryd.prog 6 #[.agg cs] w fun e w' => SomeBool e ∧ Below w.heap.size w w' := by
  have hm := hc.has w 34
  have hn := hm.name
  have ht := hm.text
  have hsm := hm.small
  have hsh := hm.short
  unfold maxLen at hsm hsh
  go_enter Tryd.func6, Tryd.ntmps6
  go_wp2
  go_loop [3, 4] (fun c i => ∃ (d : Nat) (v : Int), d ≤ 3 ∧ i = .int .i64 d ∧ c = .int .i64 v ∧ 0 ≤ v ∧ v ≤ 40000 * d) (fun _ i => 3 - (intOf i).toNat)
  case atStart => exact ⟨0, 0, by omega, rfl, rfl, by omega, by omega⟩
  case round =>
    obtain ⟨d, v, hd, rfl, rfl, hv0, hv1⟩ := hrel
    by_cases hlt : d < 3
    · have hd3 : decide ((d : Int) < 3) = true := by simp; omega
      go_wp2
      go_loop [3, 5] (fun c i => ∃ (s : Nat) (v : Int), s ≤ 4 ∧ i = .int .i64 s ∧ c = .int .i64 v ∧ 0 ≤ v ∧ v ≤ 40000 * d + 10000 * s) (fun _ i => 4 - (intOf i).toNat)
      case atStart => exact ⟨0, v, by omega, rfl, rfl, by omega, by omega⟩
      case round =>
        clear hv0 hv1
        obtain ⟨s, v, hs, rfl, rfl, hv0, hv1⟩ := hrel
        have hsz := hsm d s
        by_cases hls : s < 4
        · go_wp2
          refine ⟨⟨s + 1, v + if 10000 < ((m.name d s).size : Int) then 10000 else ((m.name d s).size : Int), by omega, by go_num, rfl, ?_, ?_⟩, by simp [intOf]; omega⟩ <;> split <;> omega
        · have e : s = 4 := by omega
          subst e
          go_wp2
          go_round
          case rel => exact ⟨d + 1, v, by omega, by go_num, rfl, by omega, by omega⟩
          case measure => simp [intOf]; omega
    · have hd3 : decide ((d : Int) < 3) = false := by simp; omega
      have hd12 : v ≤ 120000 := by omega
      clear hv1
      go_wp2
      go_loop [3, 6] (fun c i => ∃ (x : Nat) (v : Int), x ≤ 9 ∧ i = .int .i64 x ∧ c = .int .i64 v ∧ 0 ≤ v ∧ v ≤ 120000 + 10000 * x) (fun _ i => 9 - (intOf i).toNat)
      case atStart => exact ⟨0, v, by omega, rfl, rfl, by omega, by omega⟩
      case round =>
        clear hv0 hd12
        obtain ⟨x, v, hx, rfl, rfl, hv0, hv1⟩ := hrel
        have hsz := hsh x
        by_cases hlx : x < 9
        · go_wp2
          refine ⟨⟨x + 1, v + if 10000 < ((m.text x).size : Int) then 10000 else ((m.text x).size : Int), by omega, by go_num, rfl, ?_, ?_⟩, by simp [intOf]; omega⟩ <;> split <;> omega
        · go_wp2
          go_ret
          exact ⟨⟨_, rfl⟩, (Below.refl _ _).alloc (Nat.le_refl _) _⟩
end Go.Proofs.YtlbgkpibaahglacDoor
