/-
  Names that go: laws of the reference world. (Written by genjp.py.)
-/
import Derived.Test.YtmhbphmdfnlmkaaJo
namespace Go.Proofs.Ytmhbphmdfnlmkaa
open Go.RowKit
namespace Idl
theorem run_add_one {o : Oper} {ρ : Operand → Value} (x : Operand) (ho : o.op = .binOp .add 3 x (.const (.int .i64 1)) 3) {i : Nat} (hx : ρ x = .int .i64 ((i : Nat) : Int)) (hy : ρ (.const (.int .i64 1)) = .int .i64 1) (hi : i ≤ 2000000) (w : World) : (execOp ρ o).run Try.prog w = .ok (.value (.int .i64 ((i + 1 : Nat) : Int))) w := by
  have hw : IntKind.i64.wrap ((i : Int) + 1) = (i : Int) + 1 := by
    simp [IntKind.wrap, IntKind.signed, IntKind.bits]
    omega
  unfold execOp
  rw [ho]
  go_simp
theorem row_none {W W1 : World} {base : Nat} {e : TypeId} {size : Nat} {v : Value} {n : Nat} {xs : List Value} (h : W.ownsRow base e size v n xs) (hg : W.grownBy W1 (Value.slice none 0 0).ownBlock) : W1.ownsRow base e size v n xs :=
  ownsRow_of_block h (fun k hk => hg.block k (h.lt k hk).2 (by intro e; cases e))
theorem row_len {W : World} {base : Nat} {e : TypeId} {size : Nat} {v : Value} {n m : Nat} {xs : List Value} (h : n = m) (ho : W.ownsRow base e size v n xs) : W.ownsRow base e size v m xs := by subst h; exact ho
theorem rawCall {b n : Nat} {vt vf v1 f1 : Value} {W0 W1 W2 : World} {l1 : List Tg} {S : St} (h : RawTo b vt vf W0 W1 l1 n S v1 f1) (hb : Below W1.heap.size W1 W2) : RawTo b vt vf W0 W2 l1 n S v1 f1 :=
  ⟨h.1.below hb, h.2.1.trans (Chg.of_below (own := iown b v1 f1) hb) h.2.2, h.2.2⟩
theorem unlink_raw {W0 W1 W2 : World} {b n i : Nat} {S : St} {l : List Tg} {vt vf v1 v2 : Value} (h : IRaw W0 b l n S vt vf) (hi : i < l.length) (hg1 : W0.grownBy W1 (Value.slice none 0 0).ownBlock) (hg2 : W1.grownBy W2 v1.ownBlock)
    (ha1 : v1.ownBlock = (Value.slice none 0 0).ownBlock ∨ v1.ownBlock = some W0.heap.size) (ha2 : v2.ownBlock = v1.ownBlock ∨ v2.ownBlock = some W1.heap.size)
    (ho : W2.ownsRow 0 101 3 v2 (0 + i + (l.length - (i + 1))) ([] ++ (cellsT l).take (i * 3) ++ (cellsT l).drop ((i + 1) * 3))) :
    RawTo b vt vf W0 (W2.setCell ⟨b, 0, none⟩ v2) (l.take i ++ l.drop (i + 1)) n S v2 vf ∧ ∀ k, k < W0.heap.size → W2.heap[k]? = W0.heap[k]? := by
  have hk : ∀ k, k < W0.heap.size → W2.heap[k]? = W0.heap[k]? := fun k hk => by
    rw [hg2.block k (Nat.lt_of_lt_of_le hk hg1.size) (fun e => by
      rcases ha1 with z | z
      · rw [z] at e; cases e
      · rw [z] at e; cases e; omega), hg1.block k hk (by intro e; cases e)]
  have hg : W0.grownBy W2 none := ⟨hg2.os.trans hg1.os, hg2.tape.trans hg1.tape, hg2.output.trans hg1.output, Nat.le_trans hg1.size hg2.size, fun k h1 _ => hk k h1⟩
  have hl : (l.take i ++ l.drop (i + 1)).length = 0 + i + (l.length - (i + 1)) := by rw [List.length_append, List.length_take, List.length_drop]; omega
  have e := h.setT (l' := l.take i ++ l.drop (i + 1)) hg (.inl rfl) (by rw [cellsT_cut l i hi, hl]; exact ho) (.inr fun k hk => by
    rcases ha2 with z | z
    · rw [z] at hk
      rcases ha1 with y | y
      · rw [y] at hk; cases hk
      · rw [y] at hk; cases hk; exact Nat.le_refl _
    · rw [z] at hk; cases hk; exact hg1.size)
  exact ⟨⟨e.1, e.2.1, e.2.2⟩, hk⟩
theorem RawTo.cast {b n : Nat} {vt vf v1 f1 : Value} {W0 W1 : World} {l1 : List Tg} {S S1 : St} (h : RawTo b vt vf W0 W1 l1 n S v1 f1) (he : cellsF S1 n = cellsF S n) : RawTo b vt vf W0 W1 l1 n S1 v1 f1 :=
  ⟨⟨h.1.root, h.1.rowT, by rw [he]; exact h.1.rowF, h.1.offT, h.1.offF, h.1.apart⟩, h.2⟩
end Idl
end Go.Proofs.Ytmhbphmdfnlmkaa
