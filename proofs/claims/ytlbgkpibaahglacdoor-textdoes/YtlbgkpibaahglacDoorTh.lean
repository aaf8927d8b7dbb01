/-
  Images in boxes; the walk of eiderdownlaw.safeBegun.
-/
import Derived.Test.YtlbgkpibaahglacDoorTf
namespace Go.Proofs.YtlbgkpibaahglacDoor
open Go.RowKit
theorem wpList_load_row_g {P : Program} {ops : Array Oper} {rest : List Oper} {o : Oper} {a : Act} {w : World} {Q : Exit → Act → World → Prop} (hw : Region.wanted o (yielded ops a.tmps) = true) (ty : TypeId) (x : Operand) (ho : o.op = .load ty x)
    (g : Nat) (hx : a.eval x = .pointer (some ⟨g, 0, none⟩)) (t : TypeId) (cs : Array Value) (fr : Nat × Nat) (d : TypeDesc) (hg : w.heap[g]? = some (.cells cs t fr))
    (hu : P.underlying ty = some d) (hd : (match d with | .struct _ | .array _ _ => true | _ => false) = true) (hi : (P.info? ty).map (·.size) = some cs.size)
    (h : wpList P ops Q rest (a.put o.dst (.agg cs)) w) : wpList P ops Q (o :: rest) a w :=
  BigFrame.wpList_want hw fun _ hK => wp_load_row ty x ho g hx t cs fr d hg hu hd hi (hK _ _ h)
/-- boxes of images, all of them new -/
structure Boxes (w wr : World) (l : List (Nat × Array Value)) : Prop where
  below : Below w.heap.size w wr
  lo : ∀ p ∈ l, w.heap.size ≤ p.1
  row : ∀ p ∈ l, wr.heap[p.1]? = some (.cells p.2 34)
section
variable {w wr w1 : World} {l : List (Nat × Array Value)}
theorem Boxes.hi (h : Boxes w wr l) {p : Nat × Array Value} (hp : p ∈ l) : p.1 < wr.heap.size := (Array.getElem?_eq_some_iff.1 (h.row p hp)).1
theorem Boxes.call (h : Boxes w wr l) (hb : Below wr.heap.size wr w1) : Boxes w w1 l :=
  ⟨h.below.trans (hb.mono h.below.size), h.lo, fun p hp => by rw [hb.block _ (h.hi hp)]; exact h.row p hp⟩
theorem Boxes.new (h : Boxes w wr l) (c : Array Value) : Boxes w ((wr.alloc (.cells zeroCells 34)).setRow wr.heap.size c) ((wr.heap.size, c) :: l) := by
  refine ⟨below_setRow (h.below.alloc h.below.size _) h.below.size _, fun p hp => ?_, fun p hp => ?_⟩
  · rcases List.mem_cons.1 hp with e | e
    · subst e; exact h.below.size
    · exact h.lo p e
  · rcases List.mem_cons.1 hp with e | e
    · subst e; exact setRow_heap _ _ _ _ _ _ (heap_alloc_last _ _)
    · have := h.hi e
      rw [setRow_other _ _ _ _ (by omega), Below.heap_alloc _ _ _ (by omega)]; exact h.row p e
theorem Boxes.box (h : Boxes w wr l) (c : Array Value) : Boxes w (wr.alloc (.cells c 34)) ((wr.heap.size, c) :: l) := by
  refine ⟨h.below.alloc h.below.size _, fun p hp => ?_, fun p hp => ?_⟩
  · rcases List.mem_cons.1 hp with e | e
    · subst e; exact h.below.size
    · exact h.lo p e
  · rcases List.mem_cons.1 hp with e | e
    · subst e; exact heap_alloc_last _ _
    · have := h.hi e
      rw [Below.heap_alloc _ _ _ (by omega)]; exact h.row p e
theorem Boxes.two (h : Boxes w wr l) (a b : Array Value) : Boxes w ((((wr.alloc (.cells zeroCells 34)).alloc (.cells zeroCells 34)).setRow wr.heap.size a).setRow (wr.heap.size + 1) b) ((wr.heap.size + 1, b) :: (wr.heap.size, a) :: l) := by
  have hz := h.below.size
  refine ⟨below_setRow (below_setRow ((h.below.alloc hz _).alloc (by simp; omega) _) hz _) (by omega) _, fun p hp => ?_, fun p hp => ?_⟩
  · rcases List.mem_cons.1 hp with e | e
    · subst e; show w.heap.size ≤ wr.heap.size + 1; omega
    · rcases List.mem_cons.1 e with e | e
      · subst e; exact hz
      · exact h.lo p e
  · rcases List.mem_cons.1 hp with e | e
    · subst e; exact setRow_heap _ _ _ _ _ _ (by rw [setRow_other _ _ _ _ (by omega)]; exact heap_alloc2_new _ _ _)
    · rcases List.mem_cons.1 e with e | e
      · subst e
        rw [setRow_other _ _ _ _ (by simp)]; exact setRow_heap _ _ _ _ _ _ (heap_alloc2_old _ _ _)
      · have := h.hi e
        rw [setRow_other _ _ _ _ (by omega), setRow_other _ _ _ _ (by omega), Below.heap_alloc _ _ _ (by simp; omega), Below.heap_alloc _ _ _ (by omega)]; exact h.row p e
theorem Boxes.start (w : World) : Boxes w w [] := ⟨Below.refl _ _, fun _ h => by simp at h, fun _ h => by simp at h⟩
theorem Boxes.set {g : Nat} {c : Array Value} (h : Boxes w wr ((g, c) :: l)) (hg : ∀ p ∈ l, p.1 ≠ g) (i : Nat) (v : Value) : Boxes w (wr.setCell ⟨g, i, none⟩ v) ((g, c.setIfInBounds i v) :: l) := by
  have h0 := h.lo (g, c) (by simp)
  refine ⟨h.below.setCell (by exact h0) _, fun p hp => ?_, fun p hp => ?_⟩
  · rcases List.mem_cons.1 hp with e | e
    · subst e; exact h0
    · exact h.lo p (by simp [e])
  · rcases List.mem_cons.1 hp with e | e
    · subst e; exact heap_setCell_same _ _ _ _ _ _ (h.row (g, c) (by simp))
    · have := hg p e
      rw [heap_setCell_other _ _ _ _ (by simp; omega)]; exact h.row p (by simp [e])
theorem Boxes.draw (h : Boxes w wr l) (q : Nat) : Boxes w (wr.drewN q) l := h.call (belowN (Below.refl _ _))
theorem Boxes.is (h : Boxes w wr l) {g : Nat} {c : Array Value} (hp : (g, c) ∈ l) {m : Img} (hi : IsImg c m) : Row wr g m := ⟨c, h.row (g, c) hp, hi⟩
theorem Boxes.has (h : Boxes w wr l) {g : Nat} {c : Array Value} (hp : (g, c) ∈ l) {m : Img} (hi : IsImg c m) : HasImg wr g m := (h.is hp hi).has
theorem Boxes.fz (h : Boxes w wr l) {g : Nat} {c : Array Value} (hp : (g, c) ∈ l) (i : Nat) : wr.frozen? ⟨g, i, none⟩ = false := frozen_of_row _ _ _ _ _ (h.row (g, c) hp)
theorem Boxes.tail {p : Nat × Array Value} (h : Boxes w wr (p :: l)) : Boxes w wr l := ⟨h.below, fun q hq => h.lo q (by simp [hq]), fun q hq => h.row q (by simp [hq])⟩
end
theorem zero_size {cs : Array Value} {m : Img} (h : IsImg cs m) : zeroCells.size = cs.size := by rw [h.size]; exact size_newTo 0
def oneI : Img := imgOf oneCells
def blankI : Img := imgOf blankCells
theorem one_is : IsImg oneCells oneI := one_kinds.isImg
theorem blank_kinds : Kinds blankCells := .of size_blank (by kernel_rfl)
theorem blank_is : IsImg blankCells blankI := blank_kinds.isImg
def agreeB (a b : Img) : Bool :=
  ((List.range 8).all fun n => a.live n == b.live n && a.stamp n == b.stamp n && a.links n == b.links n && a.part n 0 == b.part n 0 && a.part n 1 == b.part n 1) &&
  ((List.range 3).all fun d => (List.range 4).all fun s => (a.name d s).toList == (b.name d s).toList && a.ino d s == b.ino d s && a.est d s == b.est d s) &&
  ((List.range 9).all fun x => a.of x == b.of x && (a.text x).toList == (b.text x).toList)
theorem agree_of {a b : Img} (h : agreeB a b = true) : Img.Agree a b := by
  unfold agreeB at h
  simp only [Bool.and_eq_true, List.all_eq_true, List.mem_range, beq_iff_eq] at h
  obtain ⟨⟨h1, h2⟩, h3⟩ := h
  refine ⟨fun n hn => (h1 n hn).1.1.1.1, fun n hn => (h1 n hn).1.1.1.2, fun n hn => (h1 n hn).1.1.2, fun n p hn hp => ?_, fun d s hd hs => Img.bytes_ext (h2 d hd s hs).1.1, fun d s hd hs => (h2 d hd s hs).1.2, fun d s hd hs => (h2 d hd s hs).2, fun x hx => (h3 x hx).1, fun x hx => Img.bytes_ext (h3 x hx).2⟩
  match p, hp with
  | 0, _ => exact (h1 n hn).1.2
  | 1, _ => exact (h1 n hn).2
theorem begun_a : Img.Agree (Img.write oneI blankI 3) blankI := agree_of (by kernel_rfl)
def begunC : Img := (Img.write oneI blankI 0).putData 3 5 ⟨#[120]⟩
theorem begun_b : (Img.write oneI blankI 0).live 2 = true ∧ (Img.write oneI blankI 0).part 2 1 = -1 := ⟨by kernel_rfl, by kernel_rfl⟩
theorem begun_d : (Img.write oneI begunC 3).name 1 2 = ⟨#[97]⟩ := by kernel_rfl
theorem begun_u : Img.uni oneI blankI 2 = 1 := by kernel_rfl
theorem begun_n : oneI.of 3 = 5 ∧ oneI.text 3 = ⟨#[120]⟩ := ⟨by kernel_rfl, by kernel_rfl⟩
theorem begun_k : kindS 3 = ⟨#[100, 105, 114]⟩ ∧ kindN 3 = 1 := ⟨by kernel_rfl, by kernel_rfl⟩
theorem begun_in : Img.inB 3 = true ∧ Img.inB 0 = true ∧ Img.inB 99 = false := by decide
end Go.Proofs.YtlbgkpibaahglacDoor
