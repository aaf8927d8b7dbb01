/-
  The walk of ideal.World.List.
-/
import Derived.Test.YtmhbphmdfnlmkaaVc
import Derived.Maps.AppendAt
namespace Go.Proofs.Ytmhbphmdfnlmkaa
open Go.RowKit
namespace Idl
theorem str_info : ∃ i, Try.prog.info? 9 = some i ∧ i.zero = some (.string ⟨#[]⟩) ∧ i.size = 1 ∧ i.bytes = 16 := by
  have h : (Try.prog.info? 9).map (fun i => (i.zero, i.size, i.bytes)) = some (some (.string ⟨#[]⟩), 1, 16) := by kernel_rfl
  cases hq : Try.prog.info? 9 with
  | none => rw [hq] at h; cases h
  | some i =>
    rw [hq] at h
    simp only [Option.map_some, Option.some.injEq, Prod.mk.injEq] at h
    exact ⟨i, rfl, h.1, h.2.1, h.2.2⟩
theorem one_new (W : World) (x : Value) (t : TypeId) (k : Nat) (hk : k = W.heap.size) : ∀ j u, [x][j]? = some u → (W.alloc (.cells #[x] t)).cell? ((⟨k, 0, none⟩ : Addr).add j) = some u := fun j u hj => by
  cases j with
  | zero =>
    rw [Addr.add_lit, World.cell?_alloc_at _ _ _ _ hk]
    simpa using hj
  | succ j => simp at hj
theorem one_str (s : ByteArray) : ∀ u ∈ [Value.string s], u.oneCell' = true := fun u hu => by
  rcases List.mem_cons.1 hu with rfl | hu
  · rfl
  · cases hu
def strs (l : List ByteArray) : List Value := l.map .string
theorem strs_len (l : List ByteArray) : (strs l).length = l.length := by simp [strs]
section
variable {own : Nat → Prop} {sv : Nat → Value} {loc : Nat → Nat} {w : World} {b : Nat} {S : St}
set_option maxHeartbeats 2000000 in
set_option maxRecDepth 100000 in
theorem List_any (h : Rep own sv loc w b S) (hF : Few S 1000) (d : Int) :
    Calls Try.prog 30 #[.pointer (some ⟨b, 0, none⟩), .int .i64 d] w fun e w' => ∃ v, e = .returned v ∧ w'.ownsRow w.heap.size 9 1 v (names S d).length (strs (names S d)) ∧ Below w.heap.size w w' := by
  have hdir := isDir_any d w
  cases hD : isD d
  · rw [hD] at hdir
    have e0 : names S d = [] := by simp [names, hD]
    rw [e0]
    clear h hF e0 hD
    go_enter Try.func30, Try.ntmps30
    go_wp2_with (go_at_call 67; refine hdir.mono ?_; rintro e w' ⟨rfl, rfl⟩)
    go_ret
    exact ⟨_, rfl, World.ownsRow_nil _ _ _ _, Below.refl _ _⟩
  · rw [hD] at hdir
    obtain ⟨h0, h3⟩ := isD_iff.1 hD
    obtain ⟨n, rfl⟩ := Int.eq_ofNat_of_zero_le h0
    have hn : n < 3 := by omega
    have e0 : names S n = (S.dir n).map (·.1) := by simp [names, hD]
    rw [e0]
    clear e0 hD h0
    obtain ⟨i0, hi0, hz0, hz1, hz2⟩ := str_info
    have hlen := hF n
    have hblt := h.blt
    have hroot := h.rootCell n hn
    rcases h.forms n hn with ⟨h1, h2⟩ | ⟨g, cap, h2, _, hgb, hgl, hlc, hcm, hcells⟩
    · rw [h2] at hroot
      rw [h1]
      clear h hF h1 h2 hi0 hz0 hz1 hz2
      go_enter Try.func30, Try.ntmps30
      go_wp2_with (go_at_call 67; refine hdir.mono ?_; rintro e w0 ⟨rfl, e9⟩; rw [e9]; clear e9 w0)
      go_loopw [5, 18] (fun v i wr => i = .int .i64 0 ∧ v = .slice none 0 0 ∧ wr = w) (fun _ i _ => 0)
      case atStart => exact ⟨rfl, rfl, rfl⟩
      case round =>
        obtain ⟨rfl, rfl, rfl⟩ := hrel
        go_wp2
        go_ret
        exact ⟨_, rfl, World.ownsRow_nil _ _ _ _, Below.refl _ _⟩
    · rw [h2] at hroot
      have HC := hide hcells
      clear h hF h2 hcells
      have hll : ((S.dir n).map (·.1)).length = (S.dir n).length := by simp
      generalize hlst : S.dir n = l at HC hroot hlen hlc hll ⊢
      clear hlst
      go_enter Try.func30, Try.ntmps30
      go_wp2_with (go_at_call 67; refine hdir.mono ?_; rintro e w0 ⟨rfl, e9⟩; rw [e9]; clear e9 w0)
      go_loopw [5, 18] (fun v i wr => ∃ k : Nat, k ≤ l.length ∧ i = .int .i64 k ∧ wr.ownsRow w.heap.size 9 1 v k (strs ((l.map (·.1)).take k)) ∧ Below w.heap.size w wr) (fun _ i _ => l.length - (intOf i).toNat)
      case atStart => exact ⟨0, Nat.zero_le _, rfl, by simpa [strs] using World.ownsRow_nil w w.heap.size 9 1, Below.refl _ _⟩
      case round =>
        obtain ⟨k, hk, rfl, hown, hbel⟩ := hrel
        by_cases hlt : k < l.length
        · obtain ⟨c1, c2⟩ := unhide HC k hlt
          have k1 := (hbel.cell (p := ⟨g, k * 2, none⟩) hgl).trans c1
          have k2 := (hbel.cell (p := ⟨g, k * 2 + 1, none⟩) hgl).trans c2
          have hgs : g < _ := Nat.lt_of_lt_of_le hgl hbel.size
          have et : strs ((l.map (·.1)).take (k + 1)) = strs ((l.map (·.1)).take k) ++ [.string l[k].1] := by
            rw [List.take_add_one]
            simp [strs, hlt]
          have ET := hide et
          generalize l[k].1 = nm at k1 ET
          generalize loc l[k].2 = lc at k2
          clear c1 c2 et
          have HO := hide hown
          have HB := hide hbel
          clear hown hbel
          go_wp2_with (at_builtin; refine wpList_append_own _ rfl _ _ 61 rfl w.heap.size 9 i0 _ 1 16 Try.underlying61 hi0 hz0 hz1 hz2 rfl (by omega) _ k _ rfl (((unhide HO).alloc _).alloc _) ⟨_, 0, none⟩ 1 1 [.string nm] rfl rfl (one_new _ _ _ _ (by simp)) (one_str nm) (by unfold maxLen; omega) (by omega) (by have := (unhide HB).size; simp; omega) ?_; intro v' w2 ho2 hg2 _)
          go_roundw
          case rel =>
            refine ⟨k + 1, by omega, by go_num, by rw [unhide ET]; exact ho2, ?_⟩
            have hB1 := ((unhide HB).alloc (unhide HB).size (.cells #[.string nm, .pointer (some ⟨lc, 0, none⟩)] 107))
            have hB2 := hB1.alloc hB1.size (.cells #[.string nm] 9)
            exact hB2.grown hg2 hB2.size (fun j hj => ((unhide HO).lt j hj).1)
          case measure => simp [intOf]; omega
        · have e1 : k = l.length := by omega
          have HO := hide hown
          have HB := hide hbel
          clear hown hbel
          go_wp2
          go_ret
          refine ⟨_, rfl, ?_, unhide HB⟩
          have := unhide HO
          rw [e1] at this
          rw [hll]
          rwa [List.take_of_length_le (by omega)] at this
end
end Idl
end Go.Proofs.Ytmhbphmdfnlmkaa
