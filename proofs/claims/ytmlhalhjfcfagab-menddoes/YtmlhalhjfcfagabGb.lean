/-
  The walks of mend.dropFiles, setCounts, clearDatas.
-/
import Derived.Test.YtmlhalhjfcfagabCa
import Derived.Test.YtmlhalhjfcfagabGa
namespace Go.Proofs.Ytmlhalhjfcfagab
open Go.RowKit
theorem IsImg.mLinks {cs : Array Value} {m : Img} (h : IsImg cs m) {n : Nat} (hn : n < 8) (v : Int) : IsImg (cs.setIfInBounds (n * 5 + 2) (.int .i64 v)) (m.putIno n ⟨m.live n, m.stamp n, v, m.part n 0, m.part n 1⟩) := by
  have e : cs.setIfInBounds (n * 5 + 2) (.int .i64 v) = put5v cs n ⟨m.live n, m.stamp n, v, m.part n 0, m.part n 1⟩ := by
    have hs := h.size
    refine Array.ext_getElem? fun j => ?_
    unfold put5v
    rw [set5_get (by omega), Array.getElem?_setIfInBounds]
    have h0 := h.live n hn
    have h1 := h.stamp n hn
    have h3 := h.part n 0 hn (by omega)
    have h4 := h.part n 1 hn (by omega)
    by_cases j0 : j = n * 5
    · subst j0; rw [if_neg (by omega), if_pos rfl, h0]
    · by_cases j1 : j = n * 5 + 1
      · subst j1; rw [if_neg (by omega), if_neg (by omega), if_pos rfl, h1]
      · by_cases j2 : j = n * 5 + 2
        · subst j2; rw [if_pos rfl, if_pos (by omega), if_neg (by omega), if_neg (by omega), if_pos rfl]
        · by_cases j3 : j = n * 5 + 3
          · subst j3; rw [if_neg (by omega), if_neg (by omega), if_neg (by omega), if_neg (by omega), if_pos rfl]; exact h3
          · by_cases j4 : j = n * 5 + 4
            · subst j4; rw [if_neg (by omega), if_neg (by omega), if_neg (by omega), if_neg (by omega), if_neg (by omega), if_pos rfl]; exact h4
            · rw [if_neg (by omega), if_neg j0, if_neg j1, if_neg j2, if_neg j3, if_neg j4]
  rw [e]
  exact h.putIno hn _
/-- one block is another image now; the others that were there are as they were -/
structure Mu (w w' : World) (g : Nat) (c : Array Value) : Prop where
  below : ∀ B, B ≤ g → B ≤ w.heap.size → Below B w w'
  row : w'.heap[g]? = some (.cells c 34)
  lt : g < w.heap.size
  old : ∀ j, j < w.heap.size → j ≠ g → w'.heap[j]? = w.heap[j]?
section
variable {w w1 w2 : World} {g : Nat} {c c' : Array Value} {m : Img}
theorem Mu.start (h : w.heap[g]? = some (.cells c 34)) : Mu w w g c := ⟨fun _ _ _ => Below.refl _ _, h, (Array.getElem?_eq_some_iff.1 h).1, fun _ _ _ => rfl⟩
theorem Mu.size (h : Mu w w1 g c) : w.heap.size ≤ w1.heap.size := (h.below 0 (Nat.zero_le _) (Nat.zero_le _)).size
theorem Mu.call (h : Mu w w1 g c) (hb : Below w1.heap.size w1 w2) : Mu w w2 g c :=
  ⟨fun B h1 h2 => (h.below B h1 h2).trans (hb.mono (Nat.le_trans h2 h.size)), by rw [hb.block _ (Nat.lt_of_lt_of_le h.lt h.size)]; exact h.row, h.lt, fun j hj hne => by rw [hb.block _ (Nat.lt_of_lt_of_le hj h.size), h.old j hj hne]⟩
theorem Mu.set (h : Mu w w1 g c) (i : Nat) (v : Value) : Mu w (w1.setCell ⟨g, i, none⟩ v) g (c.setIfInBounds i v) :=
  ⟨fun B h1 h2 => (h.below B h1 h2).setCell (by exact h1) _, heap_setCell_same _ _ _ _ _ _ h.row, h.lt, fun j hj hne => by rw [heap_setCell_other _ _ _ _ (by exact hne), h.old j hj hne]⟩
theorem Mu.trans (h : Mu w w1 g c) (h' : Mu w1 w2 g c') : Mu w w2 g c' :=
  ⟨fun B h1 h2 => (h.below B h1 h2).trans (h'.below B h1 (Nat.le_trans h2 h.size)), h'.row, h.lt, fun j hj hne => by rw [h'.old j (Nat.lt_of_lt_of_le hj h.size) hne, h.old j hj hne]⟩
theorem Mu.cell (h : Mu w w1 g c) {i : Nat} (hi : i < c.size) : ∃ v, w1.cell? ⟨g, i, none⟩ = some v := ⟨_, by rw [cell_of_row _ _ _ _ _ _ h.row]; exact Array.getElem?_eq_getElem hi⟩
theorem Mu.frozen (h : Mu w w1 g c) (i : Nat) : w1.frozen? ⟨g, i, none⟩ = false := frozen_of_row _ _ _ _ _ h.row
theorem Mu.has (h : Mu w w1 g c) (hi : IsImg c m) : HasImg w1 g m := has_of_row h.row hi
end
namespace Img
variable {m : Img} {n : Nat}
theorem dropTo_yes (h : goes m n = true) : dropTo m (n + 1) = (dropTo m n).putIno n Ino.none := if_pos h
theorem dropTo_no (h : goes m n = false) : dropTo m (n + 1) = dropTo m n := if_neg (by rw [h]; simp)
theorem setTo_yes (h : other m n = true) : setTo m (n + 1) = relink (setTo m n) n := if_pos h
theorem setTo_no (h : other m n = false) : setTo m (n + 1) = setTo m n := if_neg (by rw [h]; simp)
theorem clearTo_yes (h : lost m n = true) : clearTo m (n + 1) = (clearTo m n).putData n 0 ⟨#[]⟩ := if_pos h
theorem clearTo_no (h : lost m n = false) : clearTo m (n + 1) = clearTo m n := if_neg (by rw [h]; simp)
theorem dropTo_live (m : Img) (n : Nat) : (dropTo m n).live n = m.live n := by
  have := dropTo_inode m n n
  rw [if_neg (by intro z; omega)] at this
  exact (inode_eq this).1
theorem setTo_links (m : Img) (n : Nat) : (setTo m n).links n = m.links n := by
  have := setTo_inode m n n
  rw [if_neg (by omega)] at this
  exact (inode_eq this).2.2.1
theorem clearTo_at (m : Img) (n : Nat) : (clearTo m n).of n = m.of n ∧ (clearTo m n).text n = m.text n := by
  have := clearTo_data m n n
  rw [if_neg (by intro z; omega), if_neg (by intro z; omega)] at this
  exact this
end Img
set_option maxRecDepth 100000 in
set_option maxHeartbeats 2000000 in
theorem drop_any (b : Nat) (m : Img) (w : World) (hm : Row w b m) :
    Calls Try.prog 60 #[.pointer (some ⟨b, 0, none⟩)] w fun e w' => e = .returned (.int .i64 (Img.lostF m : Nat)) ∧ ∃ c, Mu w w' b c ∧ IsImg c (Img.mend1 m) := by
  obtain ⟨c0, r0, i0⟩ := hm
  have M0 := hide (Mu.start r0)
  have hz := i0.size
  go_enter Try.func60, Try.ntmps60
  go_wp2_with fail
  go_loopw [3, 5] (fun ct i wr => ∃ kk : Nat, kk ≤ 8 ∧ i = .int .i64 kk ∧ ct = .int .i64 (Img.cnt (Img.goes m) kk : Nat) ∧ ∃ c1, Hid (Mu w wr b c1) ∧ Hid (IsImg c1 (Img.dropTo m kk))) (fun _ i _ => 8 - (intOf i).toNat)
  case atStart => exact ⟨0, by omega, rfl, rfl, c0, M0, hide i0⟩
  case round =>
    clear M0
    obtain ⟨kk, hk, rfl, rfl, c1, HM, HI⟩ := hrel
    have hct := Img.cnt_le (Img.goes m) kk
    by_cases hlt : kk < 8
    · have t8 : decide ((kk : Int) < 8) = true := by simp; omega
      have jz : (kk : Int) < 8 := by omega
      have hl := ((unhide HM).has (unhide HI)).live kk hlt
      rw [Img.dropTo_live] at hl
      cases hv : m.live kk <;> rw [hv] at hl
      · have hg : Img.goes m kk = false := by unfold Img.goes; rw [hv]; rfl
        have H := hide (Img.cnt_no hg)
        have HD := hide (Img.dropTo_no hg)
        clear hg hv
        go_wp2_with fail
        go_roundw
        case rel => exact ⟨kk + 1, by omega, by go_num, by rw [unhide H], c1, HM, hide (by rw [unhide HD]; exact unhide HI)⟩
        case measure => simp [intOf]; omega
      · have RF := hide (refs_any b (Img.dropTo m kk) (kk : Int) wr ((unhide HM).has (unhide HI)))
        rw [Img.dropTo_refs] at RF
        by_cases hr : m.refs (kk : Int) = 0
        · have hg : Img.goes m kk = true := by unfold Img.goes; rw [hv, hr]; rfl
          have H := hide (Img.cnt_yes hg)
          have HD := hide (Img.dropTo_yes hg)
          rw [hr] at RF
          clear hg hv hr
          go_wp2_with fail
          refine (unhide RF).mono ?_
          rintro e wq ⟨rfl, e9⟩
          rw [e9]
          clear e9 wq RF
          have HMd := hide ((unhide HM).call (Below.refl _ _).drew)
          have h1 := (unhide HI).size
          have hI := hide ((unhide HI).putIno (n := kk) hlt Ino.none)
          clear hl
          go_wp2_with fail
          go_region_with (go_at_call 67; refine (free_any _).mono ?_; rintro e w1 ⟨rfl, hb1⟩; have M4 := hide ((unhide HMd).call hb1); obtain ⟨v0, f0⟩ := (unhide M4).cell (i := kk * 5) (by omega); obtain ⟨v1, f1⟩ := (unhide M4).cell (i := kk * 5 + 1) (by omega); obtain ⟨v2, f2⟩ := (unhide M4).cell (i := kk * 5 + 1 + 1) (by omega); obtain ⟨v3, f3⟩ := (unhide M4).cell (i := kk * 5 + 1 + 1 + 1) (by omega); obtain ⟨v4, f4⟩ := (unhide M4).cell (i := kk * 5 + 1 + 1 + 1 + 1) (by omega); have fz := (unhide M4).frozen; clear hb1)
          all_goals
            go_wp2_with fail
            go_roundw
            case rel => exact ⟨kk + 1, by omega, by go_num, by rw [unhide H]; go_num, _, hide ((((((unhide M4).set _ _).set _ _).set _ _).set _ _).set _ _), hide (by rw [unhide HD]; exact unhide hI)⟩
            case measure => simp [intOf]; omega
        · have hg : Img.goes m kk = false := by unfold Img.goes; rw [hv]; simpa using hr
          have H := hide (Img.cnt_no hg)
          have HD := hide (Img.dropTo_no hg)
          have hq : (((m.refs (kk : Int) : Nat) : Int) == 0) = false := by simpa using hr
          generalize ((m.refs (kk : Int) : Nat) : Int) = rr at RF hq
          clear hg hv hr
          go_wp2_with fail
          refine (unhide RF).mono ?_
          rintro e wq ⟨rfl, e9⟩
          rw [e9]
          clear e9 wq RF
          go_wp2_with fail
          go_roundw
          case rel => exact ⟨kk + 1, by omega, by go_num, by rw [unhide H], c1, HM, hide (by rw [unhide HD]; exact unhide HI)⟩
          case measure => simp [intOf]; omega
    · have e : kk = 8 := by omega
      subst e
      go_wp2_with fail
      go_ret
      exact ⟨rfl, c1, unhide HM, unhide HI⟩
set_option maxRecDepth 100000 in
set_option maxHeartbeats 2000000 in
theorem set_any (b : Nat) (m : Img) (w : World) (hm : Row w b m) :
    Calls Try.prog 61 #[.pointer (some ⟨b, 0, none⟩)] w fun e w' => e = .returned (.int .i64 (Img.cnt (Img.other m) 8 : Nat)) ∧ ∃ c, Mu w w' b c ∧ IsImg c (Img.setTo m 8) := by
  obtain ⟨c0, r0, i0⟩ := hm
  have M0 := hide (Mu.start r0)
  have hz := i0.size
  go_enter Try.func61, Try.ntmps61
  go_wp2_with fail
  go_loopw [3, 6] (fun ct i wr => ∃ kk : Nat, kk ≤ 8 ∧ i = .int .i64 kk ∧ ct = .int .i64 (Img.cnt (Img.other m) kk : Nat) ∧ ∃ c1, Hid (Mu w wr b c1) ∧ Hid (IsImg c1 (Img.setTo m kk))) (fun _ i _ => 8 - (intOf i).toNat)
  case atStart => exact ⟨0, by omega, rfl, rfl, c0, M0, hide i0⟩
  case round =>
    clear M0
    obtain ⟨kk, hk, rfl, rfl, c1, HM, HI⟩ := hrel
    have hct := Img.cnt_le (Img.other m) kk
    by_cases hlt : kk < 8
    · have t8 : decide ((kk : Int) < 8) = true := by simp; omega
      have jz : (kk : Int) < 8 := by omega
      have hl := ((unhide HM).has (unhide HI)).links kk hlt
      rw [Img.setTo_links] at hl
      have RF := hide (refs_any b (Img.setTo m kk) (kk : Int) wr ((unhide HM).has (unhide HI)))
      rw [Img.setTo_refs] at RF
      cases hg : Img.other m kk
      · have H := hide (Img.cnt_no hg)
        have HD := hide (Img.setTo_no hg)
        have hq : (m.links kk != (m.refs (kk : Int) : Nat)) = false := by unfold Img.other at hg; simpa [bne] using hg
        generalize ((m.refs (kk : Int) : Nat) : Int) = rr at RF hq
        clear hg
        go_wp2_with fail
        refine (unhide RF).mono ?_
        rintro e wq ⟨rfl, e9⟩
        rw [e9]
        clear e9 wq RF
        go_wp2_with fail
        go_roundw
        case rel => exact ⟨kk + 1, by omega, by go_num, by rw [unhide H], c1, HM, hide (by rw [unhide HD]; exact unhide HI)⟩
        case measure => simp [intOf]; omega
      · have H := hide (Img.cnt_yes hg)
        have HD := hide (Img.setTo_yes hg)
        have hq : (m.links kk != (m.refs (kk : Int) : Nat)) = true := by unfold Img.other at hg; simpa [bne] using hg
        have hI := hide ((unhide HI).mLinks (n := kk) hlt (m.refs (kk : Int) : Nat))
        have e0 : Img.relink (Img.setTo m kk) kk = (Img.setTo m kk).putIno kk ⟨(Img.setTo m kk).live kk, (Img.setTo m kk).stamp kk, (m.refs (kk : Int) : Nat), (Img.setTo m kk).part kk 0, (Img.setTo m kk).part kk 1⟩ := by unfold Img.relink; rw [Img.setTo_refs]
        rw [← e0] at hI
        clear e0
        generalize ((m.refs (kk : Int) : Nat) : Int) = rr at RF hq hI
        have fz := (unhide HM).frozen
        clear hg
        go_wp2_with fail
        refine (unhide RF).mono ?_
        rintro e wq ⟨rfl, e9⟩
        rw [e9]
        clear e9 wq RF
        go_wp2_with fail
        go_roundw
        case rel => exact ⟨kk + 1, by omega, by go_num, by rw [unhide H]; go_num, _, hide ((unhide HM).set _ _), hide (by rw [unhide HD]; exact unhide hI)⟩
        case measure => simp [intOf]; omega
    · have e : kk = 8 := by omega
      subst e
      go_wp2_with fail
      go_ret
      exact ⟨rfl, c1, unhide HM, unhide HI⟩
set_option maxRecDepth 100000 in
set_option maxHeartbeats 2000000 in
theorem clear_any (b : Nat) (m : Img) (w : World) (hm : Row w b m) :
    Calls Try.prog 62 #[.pointer (some ⟨b, 0, none⟩)] w fun e w' => e = .returned (.int .i64 (Img.cnt (Img.lost m) 9 : Nat)) ∧ ∃ c, Mu w w' b c ∧ IsImg c (Img.clearTo m 9) := by
  obtain ⟨c0, r0, i0⟩ := hm
  have M0 := hide (Mu.start r0)
  have hz := i0.size
  go_enter Try.func62, Try.ntmps62
  go_wp2_with fail
  go_loopw [3, 5] (fun ct i wr => ∃ kk : Nat, kk ≤ 9 ∧ i = .int .i64 kk ∧ ct = .int .i64 (Img.cnt (Img.lost m) kk : Nat) ∧ ∃ c1, Hid (Mu w wr b c1) ∧ Hid (IsImg c1 (Img.clearTo m kk))) (fun _ i _ => 9 - (intOf i).toNat)
  case atStart => exact ⟨0, by omega, rfl, rfl, c0, M0, hide i0⟩
  case round =>
    clear M0
    obtain ⟨kk, hk, rfl, rfl, c1, HM, HI⟩ := hrel
    have hct := Img.cnt_le (Img.lost m) kk
    by_cases hlt : kk < 9
    · have t8 : decide ((kk : Int) < 9) = true := by simp; omega
      have jz : (kk : Int) < 9 := by omega
      have h1 := ((unhide HM).has (unhide HI)).of kk hlt
      have h2 := ((unhide HM).has (unhide HI)).text kk hlt
      rw [(Img.clearTo_at m kk).1] at h1
      rw [(Img.clearTo_at m kk).2] at h2
      have QD := neqlDat (m.of kk) 0 (m.text kk) ⟨#[]⟩
      have hfe : (!(m.of kk == 0 && (m.text kk).toList == (⟨#[]⟩ : ByteArray).toList)) = Img.full m kk := by rw [Img.nil_list]; rfl
      rw [hfe] at QD
      clear hfe
      cases hf : Img.full m kk <;> rw [hf] at QD
      · have hg : Img.lost m kk = false := by unfold Img.lost; rw [hf]; rfl
        have H := hide (Img.cnt_no hg)
        have HD := hide (Img.clearTo_no hg)
        clear hg hf
        go_wp2_with fail
        go_roundw
        case rel => exact ⟨kk + 1, by omega, by go_num, by rw [unhide H], c1, HM, hide (by rw [unhide HD]; exact unhide HI)⟩
        case measure => simp [intOf]; omega
      · have RF := hide (holds_any b (Img.clearTo m kk) (kk : Int) wr ((unhide HM).has (unhide HI)))
        rw [Img.clearTo_holds] at RF
        cases hh : m.holds (kk : Int) <;> rw [hh] at RF
        · have hg : Img.lost m kk = true := by unfold Img.lost; rw [hf, hh]; rfl
          have H := hide (Img.cnt_yes hg)
          have HD := hide (Img.clearTo_yes hg)
          have hI := hide ((unhide HI).putData (x := kk) hlt 0 ⟨#[]⟩ (Nat.zero_le _))
          have fz := (unhide HM).frozen
          clear hg hf hh
          go_wp2_with fail
          refine (unhide RF).mono ?_
          rintro e wq ⟨rfl, e9⟩
          rw [e9]
          clear e9 wq RF
          go_wp2_with fail
          go_roundw
          case rel => exact ⟨kk + 1, by omega, by go_num, by rw [unhide H]; go_num, _, hide (((unhide HM).set _ _).set _ _), hide (by rw [unhide HD]; exact unhide hI)⟩
          case measure => simp [intOf]; omega
        · have hg : Img.lost m kk = false := by unfold Img.lost; rw [hf, hh]; rfl
          have H := hide (Img.cnt_no hg)
          have HD := hide (Img.clearTo_no hg)
          clear hg hf hh
          go_wp2_with fail
          refine (unhide RF).mono ?_
          rintro e wq ⟨rfl, e9⟩
          rw [e9]
          clear e9 wq RF
          go_wp2_with fail
          go_roundw
          case rel => exact ⟨kk + 1, by omega, by go_num, by rw [unhide H], c1, HM, hide (by rw [unhide HD]; exact unhide HI)⟩
          case measure => simp [intOf]; omega
    · have e : kk = 9 := by omega
      subst e
      go_wp2_with fail
      go_ret
      exact ⟨rfl, c1, unhide HM, unhide HI⟩
end Go.Proofs.Ytmlhalhjfcfagab
