/-
  A region whose last operation stores where another one of it has loaded: the condition on the world is asked behind all others. The reference's world without its laws.
-/
import Derived.Test.YtmhbphmdfnlmkaaJm
namespace Go.Proofs.Ytmhbphmdfnlmkaa
open Go.RowKit
section
variable {P : Program} {ops : Array Oper} {Q : Exit → Act → World → Prop} {md : Region.Mode} {S : World → Prop} {f : Nat}
def wpAnyF (P : Program) (md : Region.Mode) (ops : Array Oper) (Q : Exit → Act → World → Prop) (S : World → Prop) (f : Nat) : Nat → Array Bool → Act → World → Prop
  | 0, listed, a, w => Region.ready md ops listed = [] ∧ Q .normal a w
  | fuel + 1, listed, a, w => (Region.ready md ops listed = [] → Q .normal a w) ∧
    ∀ i ∈ Region.ready md ops listed, wpOp P ops Q i (fun a' w' => (i ≠ f → S w') ∧ wpAnyF P md ops Q S f fuel (listed.setIfInBounds i true) a' w') a w
theorem wpAny_of_F : ∀ (fuel : Nat) (listed : Array Bool) (a : Act) (w : World), wpAnyF P md ops Q S f fuel listed a w → wpAny P md ops Q fuel listed a w
  | 0, _, _, _, h => h
  | fuel + 1, _, _, _, h => ⟨h.1, fun i hi => wpOp_mono (fun a' w' h' => wpAny_of_F fuel _ a' w' h'.2) (h.2 i hi)⟩
/-- the last one waits for it -/
def waits (md : Region.Mode) (ops : Array Oper) (f i : Nat) : Bool := match ops[f]? with | some o => o.after.any fun e => Region.binds md e && e.on == i | none => false
theorem waits_ready {i : Nat} {listed : Array Bool} (h : waits md ops f i = true) (hi : listed.getD i true = false) : f ∉ Region.ready md ops listed := fun hf => by
  obtain ⟨_, o, ho, hall⟩ := mem_ready.1 hf
  unfold waits at h
  rw [ho] at h
  simp only [Array.any_eq_true, Bool.and_eq_true, beq_iff_eq] at h
  obtain ⟨j, hj, hb, e⟩ := h
  have := hall _ (Array.getElem_mem hj) hb
  rw [e] at this
  rcases Nat.lt_or_ge i listed.size with h' | h'
  · simp [h'] at hi this; rw [hi] at this; cases this
  · simp [Array.getElem?_eq_none h'] at this
theorem wpAnyF_first {i : Nat} {oi : Oper} {v : Value} (hi : ops[i]? = some oi) (hsel : ∀ (j : Nat) (o : Oper) cs b, ops[j]? = some o → o.op ≠ .select cs b)
    (hQ : ∀ c a w, Q (.panic c) (a.put oi.dst v) w → Q (.panic c) a w) (hw : waits md ops f i = true) :
    ∀ (fuel : Nat) (listed : Array Bool) (a : Act) (w : World),
      (∀ j oj, ops[j]? = some oj → j ≠ i → listed.getD j true = false → (∀ e ∈ oj.after, Region.binds md e = true → e.on ≠ i) → oi.apart ops oj = true) →
      i ∈ Region.ready md ops listed → YieldsIf P ops S oi v a → S w →
      wpAnyF P md ops Q S f fuel (listed.setIfInBounds i true) (a.put oi.dst v) w → wpAnyF P md ops Q S f (fuel + 1) listed a w := by
  intro fuel
  induction fuel with
  | zero =>
    intro listed a w _ hr hy hS H
    refine ⟨fun h => (by rw [h] at hr; cases hr), fun j hj => ?_⟩
    by_cases hji : j = i
    · subst hji; exact hy.wpOp hi hS ⟨fun _ => hS, H⟩
    · have := ready_mono hj hji
      rw [H.1] at this
      cases this
  | succ fuel ih =>
    intro listed a w hfree hr hy hS H
    refine ⟨fun h => (by rw [h] at hr; cases hr), fun j hj => ?_⟩
    by_cases hji : j = i
    · subst hji; exact hy.wpOp hi hS ⟨fun _ => hS, H⟩
    · have h1 := H.2 j (ready_mono hj hji)
      have hjf : j ≠ f := fun e => waits_ready hw (mem_ready.1 hr).1 (by rw [← e]; exact hj)
      obtain ⟨hjun, oj, hoj, hall⟩ := mem_ready.1 hj
      have hnot : ∀ e ∈ oj.after, Region.binds md e = true → e.on ≠ i := fun e he hb heq => by
        have h1 := hall e he hb
        have h0 := (mem_ready.1 hr).1
        rw [heq] at h1
        rcases Nat.lt_or_ge i listed.size with h' | h'
        · simp [h'] at h0 h1; rw [h0] at h1; cases h1
        · simp [Array.getElem?_eq_none h'] at h1
      have h2 := wpOp_putIf hoj (hfree j oj hoj hji hjun hnot) (fun cs b => hsel i oi cs b hi) (fun cs b => hsel j oj cs b hoj) hQ hy h1
      have hfree' : ∀ k ok, ops[k]? = some ok → k ≠ i → (listed.setIfInBounds j true).getD k true = false →
          (∀ e ∈ ok.after, Region.binds md e = true → e.on ≠ i) → oi.apart ops ok = true := fun k ok hk hki hun hno => by
        refine hfree k ok hk hki ?_ hno
        by_cases hjk : j = k
        · subst hjk; exact hjun
        · rw [getD_set_ne true hjk] at hun; exact hun
      refine wpOp_mono (fun a' w' h3 => ⟨fun _ => h3.2.1 hjf, ih (listed.setIfInBounds j true) a' w' hfree' (ready_mono hr (Ne.symm hji)) h3.1 (h3.2.1 hjf) ?_⟩) h2
      rw [Array.setIfInBounds_comm _ _ hji]
      exact h3.2.2
theorem wpAnyF_take {i : Nat} {oi : Oper} {v : Value} {fuel : Nat} {listed : Array Bool} {a : Act} {w : World} (hi : ops[i]? = some oi)
    (hs : Region.noSelect ops = true) (hf : Region.free md ops listed i = true) (hr : (Region.ready md ops listed).contains i = true) (hw : waits md ops f i = true)
    (hQ : ∀ c a w, Q (.panic c) (a.put oi.dst v) w → Q (.panic c) a w) (hy : YieldsIf P ops S oi v a) (hS : S w)
    (h : wpAnyF P md ops Q S f fuel (listed.setIfInBounds i true) (a.put oi.dst v) w) : wpAnyF P md ops Q S f (fuel + 1) listed a w :=
  wpAnyF_first hi (Region.noSelect_spec hs) hQ hw fuel listed a w (Region.free_spec hi hf) (by simpa using hr) hy hS h
/-- one alone may come up -/
theorem wpAnyF_one {i : Nat} {o : Oper} {fuel : Nat} {listed : Array Bool} {a : Act} {w : World} (hr : Region.ready md ops listed = [i]) (ho : ops[i]? = some o) (hwant : Region.wanted o (yielded ops a.tmps) = true)
    (h : ∀ K' : Act → World → Prop, Shut (∀ a w, (i ≠ f → S w) → wpAnyF P md ops Q S f fuel (listed.setIfInBounds i true) a w → K' a w) → Oper.wp P o a w K' Q) : wpAnyF P md ops Q S f (fuel + 1) listed a w := by
  refine ⟨fun h0 => (by rw [hr] at h0; cases h0), fun j hj => ?_⟩
  rw [hr, List.mem_singleton] at hj
  subst hj
  exact wpOp_step ho (fun K' hK => by rw [if_pos hwant]; exact h K' (fun a w hS hW => hK a w ⟨hS, hW⟩))
theorem wpAnyF_done {listed : Array Bool} {a : Act} {w : World} (hr : Region.ready md ops listed = []) (h : Q .normal a w) : ∀ fuel, wpAnyF P md ops Q S f fuel listed a w
  | 0 => ⟨hr, h⟩
  | _ + 1 => ⟨fun _ => h, by rw [hr]; simp⟩
theorem wp_region_F {id : Nat} {a : Act} {w : World} (f : Nat) (hm : P.follows .mixedOrders = true) (hS : S w.drew)
    (h : S w.drew → wpAnyF P .any ops Q S f ops.size (Array.replicate ops.size false) a w.drew) : (Code.region id ops true).wp P Q a w :=
  wp_region_any hm (wpAny_of_F _ _ _ _ (h hS))
end
namespace Idl
/-- the reference's world, without its laws -/
structure IRaw (w : World) (b : Nat) (l : List Tg) (n : Nat) (S : St) (vt vf : Value) : Prop where
  root : w.heap[b]? = some (.cells #[vt, vf] 58 (0, 0))
  rowT : w.ownsRow 0 101 3 vt l.length (cellsT l)
  rowF : w.ownsRow 0 105 4 vf n (cellsF S n)
  offT : vt.ownBlock ≠ some b
  offF : vf.ownBlock ≠ some b
  apart : ∀ k, vt.ownBlock = some k → vf.ownBlock ≠ some k
theorem IRep.raw {w : World} {b : Nat} {S : St} {l : List Tg} {vt vf : Value} (h : IRep w b S l vt vf) : IRaw w b l S.next S vt vf := ⟨h.root, h.rowT, h.rowF, h.offT, h.offF, h.apart⟩
theorem IRaw.rep {w : World} {b : Nat} {S : St} {l : List Tg} {vt vf : Value} (h : IRaw w b l S.next S vt vf) (hI : Inv S) (hT : Tags S l) : IRep w b S l vt vf := ⟨hI, hT, h.root, h.rowT, h.rowF, h.offT, h.offF, h.apart⟩
section
variable {w w' W : World} {b n : Nat} {S S' : St} {l l' : List Tg} {vt vf : Value}
theorem IRaw.blt (h : IRaw w b l n S vt vf) : b < w.heap.size := (Array.getElem?_eq_some_iff.1 h.root).1
theorem IRaw.lt (h : IRaw w b l n S vt vf) {k : Nat} (hk : iown b vt vf k) : k < w.heap.size := by
  rcases hk with rfl | hk | hk
  · exact h.blt
  · exact (h.rowT.lt k hk).2
  · exact (h.rowF.lt k hk).2
theorem IRaw.keep (h : IRaw w b l n S vt vf) (hk : ∀ k, iown b vt vf k → w'.heap[k]? = w.heap[k]?) : IRaw w' b l n S vt vf :=
  ⟨by rw [hk b (.inl rfl)]; exact h.root, ownsRow_of_block h.rowT (fun k e => hk k (.inr (.inl e))), ownsRow_of_block h.rowF (fun k e => hk k (.inr (.inr e))), h.offT, h.offF, h.apart⟩
theorem IRaw.below (h : IRaw w b l n S vt vf) (hb : Below w.heap.size w w') : IRaw w' b l n S vt vf := h.keep (fun k hk => hb.block k (h.lt hk))
theorem IRaw.setT (h : IRaw w b l n S vt vf) {row : Option Nat} {v : Value} (hg : w.grownBy W row) (hr : row = none ∨ row = vt.ownBlock)
    (ho : W.ownsRow 0 101 3 v l'.length (cellsT l')) (ha : v.ownBlock = vt.ownBlock ∨ ∀ k, v.ownBlock = some k → w.heap.size ≤ k) :
    IRaw (W.setCell ⟨b, 0, none⟩ v) b l' n S v vf ∧ Chg (iown b vt vf) w (W.setCell ⟨b, 0, none⟩ v) ∧ ∀ k, iown b v vf k → iown b vt vf k ∨ w.heap.size ≤ k := by
  have hbr : some b ≠ row := by
    rcases hr with rfl | rfl
    · intro e; cases e
    · exact fun e => h.offT e.symm
  have hb : W.heap[b]? = some (.cells #[vt, vf] 58 (0, 0)) := by rw [hg.block b h.blt hbr]; exact h.root
  have hoth : ∀ k, k ≠ b → (W.setCell ⟨b, 0, none⟩ v).heap[k]? = W.heap[k]? := fun k hk => Below.heap_setCell _ _ _ _ hk
  have hsz : (W.setCell ⟨b, 0, none⟩ v).heap.size = W.heap.size := by simp [World.setCell]
  have hvb : v.ownBlock ≠ some b := by
    rcases ha with e | e
    · rw [e]; exact h.offT
    · intro e2
      have := e b e2
      have := h.blt
      omega
  have hvf : ∀ k, vf.ownBlock = some k → W.heap[k]? = w.heap[k]? := fun k hk => hg.block k (h.rowF.lt k hk).2 (by
    rcases hr with rfl | rfl
    · intro e; cases e
    · exact fun e => h.apart k e.symm hk)
  refine ⟨⟨?_, ownsRow_of_block ho (fun k hk => hoth k (fun e => hvb (by rw [← e]; exact hk))), ?_, hvb, h.offF, fun k hk hk2 => ?_⟩, ⟨?_, ?_, ?_, ?_, fun k hk hn2 => ?_⟩, fun k hk => ?_⟩
  · rw [setCell_eq_setRow W b 0 _ _ _ v hb, setRow_heap W b _ _ _ _ hb]
    rfl
  · exact ownsRow_of_block h.rowF (fun k hk => by rw [hoth k (fun e => h.offF (by rw [← e]; exact hk)), hvf k hk])
  · rcases ha with e | e
    · exact h.apart k (by rw [← e]; exact hk) hk2
    · have := e k hk
      have := (h.rowF.lt k hk2).2
      omega
  · exact hg.os
  · exact hg.tape
  · exact hg.output
  · rw [hsz]; exact hg.size
  · rw [hoth k (fun e => hn2 (.inl e))]
    refine hg.block k hk ?_
    rcases hr with rfl | rfl
    · intro e; cases e
    · exact fun e => hn2 (.inr (.inl e.symm))
  · rcases hk with e | e | e
    · exact .inl (.inl e)
    · rcases ha with e2 | e2
      · exact .inl (.inr (.inl (by rw [← e2]; exact e)))
      · exact .inr (e2 k e)
    · exact .inl (.inr (.inr e))
theorem IRaw.setF (h : IRaw w b l n S vt vf) {v : Value} {n' : Nat} (hg : w.grownBy W vf.ownBlock)
    (ho : W.ownsRow 0 105 4 v n' (cellsF S' n')) (ha : v.ownBlock = vf.ownBlock ∨ ∀ k, v.ownBlock = some k → w.heap.size ≤ k) :
    IRaw (W.setCell ⟨b, 1, none⟩ v) b l n' S' vt v ∧ Chg (iown b vt vf) w (W.setCell ⟨b, 1, none⟩ v) ∧ ∀ k, iown b vt v k → iown b vt vf k ∨ w.heap.size ≤ k := by
  have hb : W.heap[b]? = some (.cells #[vt, vf] 58 (0, 0)) := by rw [hg.block b h.blt (fun e => h.offF e.symm)]; exact h.root
  have hoth : ∀ k, k ≠ b → (W.setCell ⟨b, 1, none⟩ v).heap[k]? = W.heap[k]? := fun k hk => Below.heap_setCell _ _ _ _ hk
  have hsz : (W.setCell ⟨b, 1, none⟩ v).heap.size = W.heap.size := by simp [World.setCell]
  have hvb : v.ownBlock ≠ some b := by
    rcases ha with e | e
    · rw [e]; exact h.offF
    · intro e2
      have := e b e2
      have := h.blt
      omega
  have hvt : ∀ k, vt.ownBlock = some k → W.heap[k]? = w.heap[k]? := fun k hk => hg.block k (h.rowT.lt k hk).2 (fun e => h.apart k hk e.symm)
  refine ⟨⟨?_, ?_, ownsRow_of_block ho (fun k hk => hoth k (fun e => hvb (by rw [← e]; exact hk))), h.offT, hvb, fun k hk hk2 => ?_⟩, ⟨hg.os, hg.tape, hg.output, by rw [hsz]; exact hg.size, fun k hk hn2 => ?_⟩, fun k hk => ?_⟩
  · rw [setCell_eq_setRow W b 1 _ _ _ v hb, setRow_heap W b _ _ _ _ hb]
    rfl
  · exact ownsRow_of_block h.rowT (fun k hk => by rw [hoth k (fun e => h.offT (by rw [← e]; exact hk)), hvt k hk])
  · rcases ha with e | e
    · exact h.apart k hk (by rw [← e]; exact hk2)
    · have := e k hk2
      have := (h.rowT.lt k hk).2
      omega
  · rw [hoth k (fun e => hn2 (.inl e))]
    exact hg.block k hk (fun e => hn2 (.inr (.inr e.symm)))
  · rcases hk with e | e | e
    · exact .inl (.inl e)
    · exact .inl (.inr (.inl e))
    · rcases ha with e2 | e2
      · exact .inl (.inr (.inr (by rw [← e2]; exact e)))
      · exact .inr (e2 k e)
end
/-- what the regions of Do read -/
def TS (b xb : Nat) (vt vf : Value) (x : Stp) (W : World) : Prop := W.cell? ⟨b, 0, none⟩ = some vt ∧ W.cell? ⟨b, 1, none⟩ = some vf ∧ ∀ (j : Nat) (u : Value), (stpA x)[j]? = some u → W.cell? ⟨xb, j, none⟩ = some u
theorem TS.keep {b xb : Nat} {vt vf : Value} {x : Stp} {W W' : World} (h : TS b xb vt vf x W) (hb : W'.heap[b]? = W.heap[b]?) (hx : W'.heap[xb]? = W.heap[xb]?) : TS b xb vt vf x W' :=
  ⟨by rw [← h.1]; exact World.cell?_of_block hb, by rw [← h.2.1]; exact World.cell?_of_block hb, fun j u hj => by rw [← h.2.2 j u hj]; exact World.cell?_of_block hx⟩
theorem tag_info : ∃ i z, Try.prog.info? 101 = some i ∧ i.zero = some z ∧ i.size = 3 ∧ i.bytes = 32 ∧ z.cells.size = 3 := by
  have h : (Try.prog.info? 101).map (fun i => (i.zero.map (fun z => z.cells.size), i.size, i.bytes)) = some (some 3, 3, 32) := by kernel_rfl
  cases hq : Try.prog.info? 101 with
  | none => rw [hq] at h; cases h
  | some i =>
    rw [hq] at h
    simp only [Option.map_some, Option.some.injEq, Prod.mk.injEq] at h
    cases hz : i.zero with
    | none => rw [hz] at h; cases h.1
    | some z =>
      rw [hz] at h
      simp only [Option.map_some, Option.some.injEq] at h
      exact ⟨i, z, rfl, hz, h.2.1, h.2.2, h.1⟩
theorem file_info : ∃ i z, Try.prog.info? 105 = some i ∧ i.zero = some z ∧ i.size = 4 ∧ i.bytes = 40 ∧ z.cells.size = 4 := by
  have h : (Try.prog.info? 105).map (fun i => (i.zero.map (fun z => z.cells.size), i.size, i.bytes)) = some (some 4, 4, 40) := by kernel_rfl
  cases hq : Try.prog.info? 105 with
  | none => rw [hq] at h; cases h
  | some i =>
    rw [hq] at h
    simp only [Option.map_some, Option.some.injEq, Prod.mk.injEq] at h
    cases hz : i.zero with
    | none => rw [hz] at h; cases h.1
    | some z =>
      rw [hz] at h
      simp only [Option.map_some, Option.some.injEq] at h
      exact ⟨i, z, rfl, hz, h.2.1, h.2.2, h.1⟩
theorem row_new (W : World) (xs : List Value) (t : TypeId) : ∀ j u, xs[j]? = some u → (W.alloc (.cells xs.toArray t)).cell? ((⟨W.heap.size, 0, none⟩ : Addr).add j) = some u := fun j u hj => by
  rw [Addr.add_lit, Nat.zero_add, World.cell?_alloc_at _ _ _ _ rfl]
  simpa using hj
end Idl
end Go.Proofs.Ytmhbphmdfnlmkaa
