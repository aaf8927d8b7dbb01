/-
  The walk of ideal.World.drop.
-/
import Derived.Test.YtmhbphmdfnlmkaaVf
namespace Go.Proofs.Ytmhbphmdfnlmkaa
open Go.RowKit
namespace Idl
section
variable {own : Nat → Prop} {sv : Nat → Value} {loc : Nat → Nat} {w : World} {b : Nat} {S : St}
/-- slices.Delete, called by drop -/
theorem del_at (h : Rep own sv loc w b S) (d : Nat) (hd : d < 3) (s : ByteArray) (n : Nat) (hl : look (S.dir d) s = some n) {W : World} (bel : Below w.heap.size w W) (g m cap : Nat) (hv : sv d = .slice (some ⟨g, 0, none⟩) (m + 1) cap) :
    Calls Try.prog 80 #[.slice (some ⟨g, 0, none⟩) (m + 1) cap, .int .i64 (pl (S.dir d) s : Nat), .int .i64 ((pl (S.dir d) s : Nat) + 1)] W fun e w' => e = .returned (.slice (some ⟨g, 0, none⟩) m cap) ∧
      Inserted W w' (sv d) (.slice (some ⟨g, 0, none⟩) m cap) (del (S.dir d) s).length (cellsE loc (del (S.dir d) s)) ∧ w'.cell? ⟨b, d, none⟩ = some (sv d) ∧ w'.frozen? ⟨b, d, none⟩ = false := by
  have hW := h.below bel
  have hr := hW.row d hd
  have hplt : pl (S.dir d) s < (S.dir d).length := by
    rcases at_place (h.inv.rise d) s with ⟨h1, _⟩ | ⟨_, _, h1, _⟩
    · rw [h1] at hl; cases hl
    · exact h1
  have hlen : (S.dir d).length = m + 1 := by
    rcases hr.2 with ⟨h1, _⟩ | ⟨g', cap', cur, h1, _⟩
    · rw [hv] at h1; cases h1
    · rw [hv] at h1
      injection h1 with _ h2 _
      exact h2.symm
  have hdl : (del (S.dir d) s).length = m := by have := del_len (h.inv.rise d) hl; omega
  rcases hr.2 with ⟨h1, _⟩ | ⟨g', cap', cur, h1, hb0, hg, hnc, hcm, hcs, htake⟩
  · rw [hv] at h1; cases h1
  · have h1' := h1
    rw [hv] at h1'
    injection h1' with e1 _ e3
    injection e1 with e1
    injection e1 with e1
    subst e1
    subst e3
    rw [hlen] at hnc htake
    refine (Delete_any g m cap (pl (S.dir d) s) cur (cellsE loc (S.dir d)) hg hcs hcm htake (by omega) hnc (cellsE_one loc _)).mono ?_
    rintro e w' ⟨rfl, rfl⟩
    have hx0 := splice_del (L := cur.toList) (xs := cellsE loc (S.dir d)) (n := m) (i := pl (S.dir d) s) zents (by omega) (by rw [Array.length_toList]; omega) htake rfl
    simp only at hx0
    have hdd : (List.drop ((pl (S.dir d) s + 1) * 2) (cellsE loc (S.dir d))).length = (m - pl (S.dir d) s) * 2 := by rw [List.length_drop, cellsE_len, hlen]; omega
    have hg1 := row_setCells g 107 (List.drop ((pl (S.dir d) s + 1) * 2) (cellsE loc (S.dir d))) (pl (S.dir d) s * 2) W.drew cur hg (by rw [hdd]; omega)
    have hg2 := row_setCells g 107 zents (m * 2) _ _ hg1 (by show m * 2 + 2 ≤ _; rw [List.size_toArray, hx0.2.2, Array.length_toList, hcs]; omega)
    have hgr : W.grownBy ((W.drew.setCells g (pl (S.dir d) s * 2) (List.drop ((pl (S.dir d) s + 1) * 2) (cellsE loc (S.dir d)))).setCells g (m * 2) zents) (some g) :=
      grownBy_setCells _ _ _ _ _ (grownBy_setCells _ _ _ _ _ ⟨rfl, rfl, rfl, Nat.le_refl _, fun _ _ _ => rfl⟩)
    have hbn : ∀ k, (sv d).ownBlock = some k → k ≠ b := fun k hk => (h.rowOwn d k hd hk).2
    have hgb : g ≠ b := hbn g (by rw [hv]; rfl)
    have hb := hgr.block b hW.blt (fun e => hgb (Option.some.inj e).symm)
    refine ⟨rfl, ⟨⟨by rw [cellsE_len], .inr ⟨g, cap, _, by rw [hdl], hb0, hg2, by rw [hdl]; omega, hcm, ?_, ?_⟩⟩, by rw [hv]; exact hgr, .inl (by rw [hv]; rfl)⟩, ?_, ?_⟩
    · rw [List.size_toArray]
      simp only
      rw [hx0.2.1, Array.length_toList]; exact hcs
    · simp only
      rw [hdl, hx0.1]
      unfold del
      rw [cellsE_app, cellsE_take, cellsE_drop]
    · rw [World.cell?_of_block (w := W) (a := ⟨b, d, none⟩) hb]; exact hW.rootCell d hd
    · rw [World.frozen?_of_block (w := W) (a := ⟨b, d, none⟩) hb]; exact hW.rootFree d
set_option maxHeartbeats 800000 in
set_option maxRecDepth 100000 in
theorem drop_any (h : Rep own sv loc w b S) (hF : Few S 1000) (d : Nat) (hd : d < 3) (s : ByteArray) (n : Nat) (hl : look (S.dir d) s = some n) :
    Calls Try.prog 65 #[.pointer (some ⟨b, 0, none⟩), .int .i64 d, .string s] w fun e w' => e = .returned (.tuple #[]) ∧
      ∃ own' svn, Rep own' svn loc w' b (S.drop d s) ∧ Chg own w w' ∧ ∀ k, own' k → own k ∨ w.heap.size ≤ k := by
  have hp := place_at h hF d hd s (Below.refl _ w)
  have hplt := pl_le (l := S.dir d) s
  have hlen := hF d
  obtain ⟨g, m, cap, hv⟩ : ∃ g m cap, sv d = .slice (some ⟨g, 0, none⟩) (m + 1) cap := by
    rcases (h.row d hd).2 with ⟨h1, h2⟩ | ⟨g, cap, cur, h1, _⟩
    · rw [List.eq_nil_of_length_eq_zero h2] at hl; cases hl
    · cases hq : (S.dir d).length with
      | zero => rw [List.eq_nil_of_length_eq_zero hq] at hl; cases hl
      | succ m => exact ⟨g, m, cap, by rw [h1, hq]⟩
  have HI := hide fun W (bel : Below w.heap.size w W) => del_at h d hd s n hl (W := W) bel g m cap hv
  have HE := hide fun (W w2 : World) v (bel : Below w.heap.size w W) (I : Inserted W w2 (sv d) v (del (S.dir d) s).length (cellsE loc (del (S.dir d) s))) => row_end h d hd (del (S.dir d) s) (S.drop d s) rfl (h.inv.drop d s hl) bel v I.row I.grown I.place
  have HR := hide fun (W : World) (bel : Below w.heap.size w W) => (h.below bel).rootFree d
  have hblt := h.blt
  have hdz : (d : Int) < 3 := by omega
  rw [hv] at hp HI HE
  generalize pl (S.dir d) s = k at HI hp hplt
  have hk : (k : Int) ≤ 1000 := by omega
  have hw8 : IntKind.i64.wrap ((k : Int) + 1) = (k : Int) + 1 := by rw [IntKind.wrap_i64]; omega
  clear h hF hl hv
  go_enter Try.func65, Try.ntmps65
  go_wp2_with fail
  refine hp.mono ?_
  rintro e w1 ⟨rfl, bel1, hc1⟩
  have hf1 := unhide HR w1 bel1
  have BEL := hide bel1
  clear bel1 hp
  go_wp2_with fail
  go_region_with (go_at_call 80; refine (unhide HI _ (unhide BEL).drew).mono ?_; rintro e w2 ⟨rfl, I, hc2, hf2⟩)
  all_goals
    go_end0
    exact ⟨rfl, unhide HE _ w2 _ (unhide BEL).drew I⟩
end
end Idl
end Go.Proofs.Ytmhbphmdfnlmkaa
