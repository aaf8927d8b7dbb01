/-
  The law LifeLast: its walk. (Written by genhn.py.)
-/
import Derived.Test.YtlbgkpibaahglacGreatXbf
import Derived.Test.YtlbgkpibaahglacGreatXca
import Derived.Test.YtlbgkpibaahglacGreatXay
import Derived.Test.YtlbgkpibaahglacGreatXap
import Derived.BigQuiet
import Derived.Laws.OwnMore
import Derived.Deep.RegionHeld
namespace Go.Proofs.YtlbgkpibaahglacGreat
open Go.RowKit
open Idl (Stp chk stpA)
namespace Lif
theorem ix_inos {o : Oper} {ρ : Operand → Value} (x y : Operand) (ho : o.op = .indexAddr 35 x y) {g j : Nat} (hx : ρ x = .pointer (some ⟨g, 0, none⟩)) (hy : ρ y = .int .i64 ((j : Nat) : Int)) (hj : j < 8) (w : World) : (execOp ρ o).run Tryz.prog w = .ok (.value (.pointer (some ⟨g, j * 5, none⟩))) w := by
  have jz : (j : Int) < 8 := by omega
  unfold execOp
  rw [ho]
  go_simp
theorem ix_dats {o : Oper} {ρ : Operand → Value} (x y : Operand) (ho : o.op = .indexAddr 42 x y) {g j : Nat} (hx : ρ x = .pointer (some ⟨g, 76, none⟩)) (hy : ρ y = .int .i64 ((j : Nat) : Int)) (hj : j < 9) (w : World) : (execOp ρ o).run Tryz.prog w = .ok (.value (.pointer (some ⟨g, 76 + j * 2, none⟩))) w := by
  have jz : (j : Int) < 9 := by omega
  unfold execOp
  rw [ho]
  go_simp
theorem neqf {o : Oper} {ρ : Operand → Value} (x y : Operand) (ho : o.op = .binOp .neq 3 x y 3) {u v : Int} (hx : ρ x = .int .i64 u) (hy : ρ y = .int .i64 v) (hv : (u != v) = false) (w : World) : (execOp ρ o).run Tryz.prog w = .ok (.value (.bool false)) w := by
  unfold execOp
  rw [ho]
  go_simp
theorem ld_int {o : Oper} {ρ : Operand → Value} (x : Operand) (ho : o.op = .load 3 x) {g o0 : Nat} (hx : ρ x = .pointer (some ⟨g, o0, none⟩)) {v : Int} (w : World) (h : w.cell? ⟨g, o0, none⟩ = some (.int .i64 v)) : (execOp ρ o).run Tryz.prog w = .ok (.value (.int .i64 v)) w := by
  unfold execOp
  rw [ho]
  go_simp
end Lif
end Go.Proofs.YtlbgkpibaahglacGreat
namespace Go.Proofs.YtlbgkpibaahglacGreat
namespace Idl
end Idl
end Go.Proofs.YtlbgkpibaahglacGreat
namespace Go.Proofs.YtlbgkpibaahglacGreat
open Go.RowKit
namespace Idl
end Idl
end Go.Proofs.YtlbgkpibaahglacGreat
namespace Go.Proofs.YtlbgkpibaahglacGreat
open Go.RowKit
namespace Idl
end Idl
end Go.Proofs.YtlbgkpibaahglacGreat
namespace Go.Proofs.YtlbgkpibaahglacGreat
open Go.RowKit
namespace Idl
/-- what is appended: m elements, of these cells -/
def Part (W : World) (size : Nat) (x : Value) (m : Nat) (news : List Value) : Prop :=
  (x = .slice none 0 0 ∧ m = 0 ∧ news = []) ∨ ∃ ad c, x = .slice (some ad) m c ∧ news.length = m * size ∧ ∀ j u, news[j]? = some u → W.cell? (ad.add j) = some u
section
variable {P : Program} {W : World} {base : Nat} {t e : TypeId} {i : TypeInfo} {z : Value} {size bytes : Nat}
theorem run_append_part (ty : TypeId) (ht : P.underlying t = some (.slice e)) (hi : P.info? e = some i) (hz : i.zero = some z)
    (hsize : i.size = size) (hby : i.bytes = bytes) (hzs : z.cells.size = size) (hsz : 0 < size) {v : Value} {n : Nat} {xs : List Value} (hown : W.ownsRow base e size v n xs)
    {x : Value} {m : Nat} {news : List Value} (hp : Part W size x m news) (h1 : ∀ u ∈ news, u.oneCell' = true) (h63 : n + m ≤ maxLen) (hbytes : (n + m) * bytes ≤ 140737488355328) (hbase : base ≤ W.heap.size) :
    ∃ v' W', (Builtin.append_ #[t, t] ty #[v, x]).run P W = .ok v' W' ∧ W'.ownsRow base e size v' (n + m) (xs ++ news) ∧ W.grownBy W' v.ownBlock ∧ (v'.ownBlock = v.ownBlock ∨ v'.ownBlock = some W.heap.size) := by
  rcases hp with ⟨rfl, rfl, rfl⟩ | ⟨ad, c, rfl, hl, hnews⟩
  · exact ⟨v, W, run_append_owned_none W base t ty e i size ht hi v n xs hown, by simpa using hown, ⟨rfl, rfl, rfl, Nat.le_refl _, fun _ _ _ => rfl⟩, .inl rfl⟩
  · obtain ⟨v', w', hr, h2, h3, _, h5⟩ := run_append_own_at (P := P) W base t ty e i z size bytes ht hi hz hsize hby hzs hsz v n xs hown ad m c news hl hnews h1 h63 hbytes hbase
    exact ⟨v', w', hr, h2, h3, h5⟩
theorem wp_append_part {o : Oper} {a : Act} {K : Act → World → Prop} {Q : Exit → Act → World → Prop} (s x : Operand)
    (ho : o.op = .call { callee := .builtin .append, args := #[s, x], argTypes := #[t, t] }) (ht : P.underlying t = some (.slice e)) (hi : P.info? e = some i) (hz : i.zero = some z)
    (hsize : i.size = size) (hby : i.bytes = bytes) (hzs : z.cells.size = size) (hsz : 0 < size) {v : Value} {n : Nat} {xs : List Value} (hs : a.eval s = v) (hown : W.ownsRow base e size v n xs)
    {xv : Value} {m : Nat} {news : List Value} (hx : a.eval x = xv) (hp : Part W size xv m news) (h1 : ∀ u ∈ news, u.oneCell' = true) (h63 : n + m ≤ maxLen) (hbytes : (n + m) * bytes ≤ 140737488355328) (hbase : base ≤ W.heap.size)
    (h : ∀ v' W', W'.ownsRow base e size v' (n + m) (xs ++ news) → W.grownBy W' v.ownBlock → (v'.ownBlock = v.ownBlock ∨ v'.ownBlock = some W.heap.size) → K (a.put o.dst v') W') : o.wp P a W K Q := by
  obtain ⟨v', w', hr, h2, h3, h4⟩ := run_append_part (P := P) (W := W) o.type ht hi hz hsize hby hzs hsz hown hp h1 h63 hbytes hbase
  unfold Oper.wp execOp
  simp only [ho, resolve, invoke, builtin, Sem.run_bind, Sem.run_pure, Result.andThen_ok, List.map_toArray, List.map_cons, List.map_nil, hs, hx, hr]
  exact h v' w' h2 h3 h4
/-- a row of one's own: a slice, and its two parts -/
theorem own_form {v : Value} {m : Nat} {xs : List Value} (h : W.ownsRow base e size v m xs) : ∃ a cap, v = .slice a m cap ∧ m ≤ cap := by
  rcases h.2 with ⟨rfl, rfl⟩ | ⟨g, cap, cur, rfl, _, _, hm, _⟩
  · exact ⟨_, _, rfl, Nat.le_refl _⟩
  · exact ⟨_, _, rfl, hm⟩
end
/-! the names, one tag more -/
end Idl
end Go.Proofs.YtlbgkpibaahglacGreat
