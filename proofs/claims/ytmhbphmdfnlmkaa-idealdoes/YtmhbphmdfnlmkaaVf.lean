/-
  The walks of ideal.World.add and drop: first what they leave.
-/
import Derived.Test.YtmhbphmdfnlmkaaVe
namespace Go.Proofs.Ytmhbphmdfnlmkaa
open Go.RowKit
namespace Idl
theorem root_set {w : World} {b : Nat} {sv : Nat → Value} (h : w.heap[b]? = some (.cells #[sv 0, sv 1, sv 2] 89 (0, 0))) (d : Nat) (hd : d < 3) (v : Value) :
    (w.setCell ⟨b, d, none⟩ v).heap[b]? = some (.cells #[if 0 = d then v else sv 0, if 1 = d then v else sv 1, if 2 = d then v else sv 2] 89 (0, 0)) := by
  rw [setCell_eq_setRow w b d _ _ _ v h, setRow_heap w b _ _ _ _ h]
  match d, hd with
  | 0, _ => rfl
  | 1, _ => rfl
  | 2, _ => rfl
section
variable {own : Nat → Prop} {sv : Nat → Value} {loc : Nat → Nat} {w : World} {b : Nat} {S : St}
/-- what add and drop leave: one row is another one, in its old block or in a new one; all else is as it was -/
theorem row_end (h : Rep own sv loc w b S) (d : Nat) (hd : d < 3) (l : List Ent) (S' : St) (hS : S' = { S with dir := setD S.dir d l }) (hinv : Inv S') {W w2 : World} (bel : Below w.heap.size w W) (v : Value)
    (hrow : w2.ownsRow 0 107 2 v l.length (cellsE loc l)) (hgr : W.grownBy w2 (sv d).ownBlock) (hpl : v.ownBlock = (sv d).ownBlock ∨ v.ownBlock = some W.heap.size) :
    ∃ own' svn, Rep own' svn loc (w2.setCell ⟨b, d, none⟩ v) b S' ∧ Chg own w (w2.setCell ⟨b, d, none⟩ v) ∧ ∀ k, own' k → own k ∨ w.heap.size ≤ k := by
  have hW := h.below bel
  have hsz : (w2.setCell ⟨b, d, none⟩ v).heap.size = w2.heap.size := by simp [World.setCell]
  have hoth : ∀ k, k ≠ b → (w2.setCell ⟨b, d, none⟩ v).heap[k]? = w2.heap[k]? := fun k hk => Below.heap_setCell _ _ _ _ hk
  have hdb : ∀ k, (sv d).ownBlock = some k → own k ∧ k ≠ b := fun k hk => h.rowOwn d k hd hk
  have hkept : ∀ k, k < W.heap.size → (sv d).ownBlock ≠ some k → w2.heap[k]? = W.heap[k]? := fun k hk hne => hgr.block k hk (fun e => hne e.symm)
  have hbW := hW.blt
  have hroot : w2.heap[b]? = some (.cells #[sv 0, sv 1, sv 2] 89 (0, 0)) := by
    rw [hkept b hbW (fun e => (hdb b e).2 rfl)]; exact hW.root
  have hnew : ∀ k, v.ownBlock = some k → (own k ∧ k ≠ b ∧ (sv d).ownBlock = some k) ∨ k = W.heap.size := fun k hk => by
    rcases hpl with e | e
    · rw [e] at hk
      exact .inl ⟨(hdb k hk).1, (hdb k hk).2, hk⟩
    · rw [hk] at e
      exact .inr (Option.some.inj e)
  have hdir : ∀ e, S'.dir e = if e = d then l else S.dir e := fun e => by rw [hS]; rfl
  have hnext : S'.next = S.next := by rw [hS]
  have hfc : ∀ i, fileCells S' i = fileCells S i := fun i => by rw [hS]; rfl
  have hbs := bel.size
  have hgs := hgr.size
  refine ⟨fun k => own k ∨ v.ownBlock = some k, fun e => if e = d then v else sv e, ⟨hinv, ?_, ?_, .inl h.rown, ?_, ?_, ?_, ?_, ?_, ?_⟩, ⟨?_, ?_, ?_, ?_, ?_⟩, ?_⟩
  · intro k hk
    rw [hsz]
    rcases hk with hk | hk
    · have := hW.size k hk; omega
    · exact (hrow.lt k hk).2
  · have := root_set (sv := sv) hroot d hd v
    rw [this]
  · intro e he
    rw [hdir e]
    by_cases hed : e = d
    · subst hed
      simp only [if_pos]
      refine ownsRow_of_block hrow (fun k hk => hoth k ?_)
      rcases hnew k hk with h1 | h1
      · exact h1.2.1
      · omega
    · rw [if_neg hed, if_neg hed]
      refine ownsRow_of_block (hW.row e he) (fun k hk => ?_)
      have ho := h.rowOwn e k he hk
      rw [hoth k ho.2, hkept k (hW.size k ho.1) (fun e' => h.apart d e k hd he (fun x => hed x.symm) e' hk)]
  · intro e k he hk
    split at hk
    · rcases hnew k hk with h1 | h1
      · exact ⟨.inl h1.1, h1.2.1⟩
      · exact ⟨.inr hk, by omega⟩
    · exact ⟨.inl (h.rowOwn e k he hk).1, (h.rowOwn e k he hk).2⟩
  · intro e e' k he he' hne hk
    split at hk
    · rename_i e1
      have e2 : ¬ (e' = d) := fun x => hne (e1.trans x.symm)
      rw [if_neg e2]
      intro hk'
      rcases hnew k hk with h1 | h1
      · exact h.apart d e' k hd he' (fun x => e2 x.symm) h1.2.2 hk'
      · have := hW.size k (h.rowOwn e' k he' hk').1; omega
    · rename_i e1
      split
      · intro hk'
        rcases hnew k hk' with h1 | h1
        · exact h.apart d e k hd he (fun x => e1 x.symm) h1.2.2 hk
        · have := hW.size k (h.rowOwn e k he hk).1; omega
      · exact h.apart e e' k he he' hne hk
  · intro i hi
    rw [hnext] at hi
    obtain ⟨f1, f2, f3⟩ := h.filOwn i hi
    rw [hoth _ f2, hkept _ (hW.size _ f1) (f3 d hd), hfc]
    exact hW.fil i hi
  · intro i hi
    rw [hnext] at hi
    obtain ⟨f1, f2, f3⟩ := h.filOwn i hi
    refine ⟨.inl f1, f2, fun e he => ?_⟩
    split
    · intro hk
      rcases hnew _ hk with h1 | h1
      · exact f3 d hd h1.2.2
      · have := hW.size _ f1; omega
    · exact f3 e he
  · intro i j hi hj
    rw [hnext] at hi hj
    exact h.inj i j hi hj
  · exact hgr.os.trans bel.os
  · exact hgr.tape.trans bel.tape
  · exact hgr.output.trans bel.output
  · rw [hsz]; omega
  · intro k hk hn
    rw [hoth k (fun e => hn (by rw [e]; exact h.rown)), hkept k (by omega) (fun e => hn (hdb k e).1)]
    exact bel.block k hk
  · intro k hk
    rcases hk with hk | hk
    · exact .inl hk
    · rcases hnew k hk with h1 | h1
      · exact .inl h1.1
      · exact .inr (by omega)
/-- slices.Insert, called by add: what it asks is there in every world behind w -/
theorem ins_at (h : Rep own sv loc w b S) (hF : Few S 1000) (d : Nat) (hd : d < 3) (s : ByteArray) (n : Nat) {W : World} (bel : Below w.heap.size w W) (vb : Nat) (hvb : w.heap.size ≤ vb)
    (hv : W.heap[vb]? = some (.cells #[.string s, .pointer (some ⟨loc n, 0, none⟩)] 107 (0, 0))) :
    Calls Try.prog 78 #[sv d, .int .i64 (pl (S.dir d) s : Nat), .slice (some ⟨vb, 0, none⟩) 1 1] W fun e w' => ∃ g c m, e = .returned (.slice (some ⟨g, 0, none⟩) m c) ∧ Inserted W w' (sv d) (.slice (some ⟨g, 0, none⟩) m c) (ins (S.dir d) s n).length (cellsE loc (ins (S.dir d) s n)) ∧
      w'.cell? ⟨b, d, none⟩ = some (sv d) ∧ w'.frozen? ⟨b, d, none⟩ = false := by
  have hW := h.below bel
  have hlen := hF d
  have e : cellsE loc (ins (S.dir d) s n) = (cellsE loc (S.dir d)).take (pl (S.dir d) s * 2) ++ [.string s, .pointer (some ⟨loc n, 0, none⟩)] ++ (cellsE loc (S.dir d)).drop (pl (S.dir d) s * 2) := by
    unfold ins
    rw [cellsE_app, cellsE_cons, cellsE_take, cellsE_drop]
    simp
  refine (Insert_any (hW.row d hd) (pl_le s) (by omega) (cellsE_one loc _) vb [.string s, .pointer (some ⟨loc n, 0, none⟩)] rfl hv (fun hk => ?_) (fun v hv => ?_)).mono ?_
  · have := h.size vb (h.rowOwn d vb hd hk).1
    omega
  · rcases List.mem_cons.1 hv with rfl | hv
    · rfl
    · rcases List.mem_cons.1 hv with rfl | hv
      · rfl
      · cases hv
  · rintro e' w' ⟨sv', rfl, I⟩
    have hb : w'.heap[b]? = W.heap[b]? := I.grown.block b hW.blt (fun hk => (h.rowOwn d b hd hk.symm).2 rfl)
    obtain ⟨g, c, m, rfl⟩ : ∃ g c m, sv' = .slice (some ⟨g, 0, none⟩) m c := by
      rcases I.row.2 with ⟨_, h0⟩ | ⟨g, cap, cur, hv, _⟩
      · omega
      · exact ⟨g, cap, _, hv⟩
    refine ⟨g, c, m, rfl, by rw [ins_len, e]; exact I, ?_, ?_⟩
    · rw [World.cell?_of_block (w := W) (a := ⟨b, d, none⟩) hb]; exact hW.rootCell d hd
    · rw [World.frozen?_of_block (w := W) (a := ⟨b, d, none⟩) hb]; exact hW.rootFree d
theorem place_at (h : Rep own sv loc w b S) (hF : Few S 1000) (d : Nat) (hd : d < 3) (s : ByteArray) {W : World} (bel : Below w.heap.size w W) :
    Calls Try.prog 79 #[.pointer (some ⟨b, 0, none⟩), .int .i64 d, .string s] W fun e w' => e = .returned (.int .i64 (pl (S.dir d) s : Nat)) ∧ Below W.heap.size W w' ∧ w'.cell? ⟨b, d, none⟩ = some (sv d) := by
  refine (place_any (h.below bel) hF d hd s).mono ?_
  rintro e w' ⟨rfl, b1⟩
  exact ⟨rfl, b1, ((h.below bel).below b1).rootCell d hd⟩
theorem heap_push (w : World) (o : Obj) : (w.alloc o).heap[w.heap.size]? = some o := heap_alloc_new w o
set_option maxHeartbeats 4000000 in
set_option maxRecDepth 100000 in
theorem add_any (h : Rep own sv loc w b S) (hF : Few S 1000) (d : Nat) (hd : d < 3) (s : ByteArray) (n : Nat) (hl : look (S.dir d) s = none) (hs : Img.isNmB s.toList = true) (hn : n < S.next) :
    Calls Try.prog 63 #[.pointer (some ⟨b, 0, none⟩), .int .i64 d, .string s, .pointer (some ⟨loc n, 0, none⟩)] w fun e w' => e = .returned (.tuple #[]) ∧
      ∃ own' svn, Rep own' svn loc w' b (S.add d s n) ∧ Chg own w w' ∧ ∀ k, own' k → own k ∨ w.heap.size ≤ k := by
  have HP := hide fun W (bel : Below w.heap.size w W) => place_at h hF d hd s bel
  have HI := hide fun W (bel : Below w.heap.size w W) vb hvb hv => ins_at h hF d hd s n (W := W) bel vb hvb hv
  have HE := hide fun (W w2 : World) v (bel : Below w.heap.size w W) (I : Inserted W w2 (sv d) v (ins (S.dir d) s n).length (cellsE loc (ins (S.dir d) s n))) => row_end h d hd (ins (S.dir d) s n) (S.add d s n) rfl (h.inv.add d s n hl hs hn) bel v I.row I.grown I.place
  have hroot := h.rootCell d hd
  have hfree := h.rootFree d
  have hblt := h.blt
  have hdz : (d : Int) < 3 := by omega
  have bel0 : Below w.heap.size w w := Below.refl _ _
  generalize sv d = v0 at HI HP HE hroot
  generalize pl (S.dir d) s = k at HI HP
  clear h hF hl hs
  go_enter Try.func63, Try.ntmps63
  go_wp2_with fail
  go_region_with (first
    | (go_at_call 79; refine (unhide HP _ ?_).mono ?_; exact bel0.drew; rintro e w1 ⟨rfl, bel1, hc1⟩; have belw : Below w.heap.size w w1 := bel0.drew.trans bel1; have hb1 : b < w1.heap.size := Nat.lt_of_lt_of_le hblt belw.size)
    | (go_at_call 79; refine (unhide HP _ ?_).mono ?_; exact (bel0.alloc (Nat.le_refl _) _).drew; rintro e w1 ⟨rfl, bel1, hc1⟩; have belw : Below w.heap.size w w1 := (bel0.alloc (Nat.le_refl _) _).drew.trans (bel1.mono (by simp)); have hvb1 : w1.heap[w.heap.size]? = _ := (bel1.block w.heap.size (by simp)).trans (heap_push w _); have hb1 : b < w1.heap.size := Nat.lt_of_lt_of_le hblt belw.size)
    | (go_at_call 78; refine (unhide HI _ ?_ _ ?_ ?_).mono ?_; exact belw.alloc belw.size _; exact belw.size; exact heap_push w1 _; rintro e w2 ⟨g', c', m', rfl, I, hc2, hf2⟩)
    | (go_at_call 78; refine (unhide HI _ ?_ _ ?_ ?_).mono ?_; exact belw; exact Nat.le_refl _; exact hvb1; rintro e w2 ⟨g', c', m', rfl, I, hc2, hf2⟩))
  all_goals
    go_end0
    exact ⟨rfl, unhide HE _ w2 _ (by first | exact belw.alloc belw.size _ | exact belw) I⟩
end
end Idl
end Go.Proofs.Ytmhbphmdfnlmkaa
