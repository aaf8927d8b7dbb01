/-
  What is mended: what is kept, what is counted. No Go in here.
-/
import Derived.Test.YtmlhalhjfcfagabGa
namespace Go.Proofs.Ytmlhalhjfcfagab
namespace Img
variable {m : Img}
theorem dropTo_same (k : Nat) (h : ∀ n, n < k → goes m n = false) : dropTo m k = m := by
  induction k with
  | zero => rfl
  | succ k ih =>
    unfold dropTo
    rw [if_neg (by rw [h k (by omega)]; simp)]
    exact ih (fun n hn => h n (by omega))
theorem setTo_same (k : Nat) (h : ∀ n, n < k → other m n = false) : setTo m k = m := by
  induction k with
  | zero => rfl
  | succ k ih =>
    unfold setTo
    rw [if_neg (by rw [h k (by omega)]; simp)]
    exact ih (fun n hn => h n (by omega))
theorem clearTo_same (k : Nat) (h : ∀ n, n < k → lost m n = false) : clearTo m k = m := by
  induction k with
  | zero => rfl
  | succ k ih =>
    unfold clearTo
    rw [if_neg (by rw [h k (by omega)]; simp)]
    exact ih (fun n hn => h n (by omega))
theorem cnt_none {p : Nat → Bool} : ∀ {k : Nat}, (∀ n, n < k → p n = false) → cnt p k = 0
  | 0, _ => rfl
  | k + 1, h => by rw [cnt_no (h k (by omega))]; exact cnt_none fun n hn => h n (by omega)
/-- what an inode that is left has -/
structure Left (m : Img) (n : Nat) : Prop where
  live : (mend m).live n = m.live n
  stamp : (mend m).stamp n = m.stamp n
  links : (mend m).links n = (m.refs (n : Int) : Int)
  part : ∀ p, p < 2 → (mend m).part n p = m.part n p
theorem left {n : Nat} (hn : n < 8) (hg : goes m n = false) : Left m n := by
  have h := mend_inode m hn
  rw [if_neg (by rw [hg]; simp)] at h
  obtain ⟨g1, g2, g3, g4, g5⟩ := inode_is h
  refine ⟨g1, g2, g3, fun p hp => ?_⟩
  match p, hp with
  | 0, _ => exact g4
  | 1, _ => exact g5
theorem gone {n : Nat} (hn : n < 8) (hg : goes m n = true) : (mend m).live n = false ∧ m.live n = true ∧ m.refs (n : Int) = 0 := by
  have h := mend_inode m hn
  rw [if_pos hg] at h
  unfold goes at hg
  simp at hg
  exact ⟨(inode_is h).1, hg.1, hg.2⟩
theorem mend_live {n : Nat} (hn : n < 8) : (mend m).live n = (m.live n && !goes m n) := by
  cases hg : goes m n
  · rw [(left hn hg).live]; simp
  · rw [(gone hn hg).1]; simp
theorem again_goes (hm : m.check = 0) {n : Nat} (hn : n < 8) : goes (mend m) n = false := by
  unfold goes
  cases hl : (mend m).live n
  · rfl
  · have := ((mend_ex hm).links n hn hl)
    have h0 : (mend m).refs (n : Int) ≠ 0 := by omega
    simpa using h0
theorem again_other (hm : m.check = 0) {n : Nat} (hn : n < 8) : other (mend m) n = false := by
  cases hl : (mend m).live n
  · exact free_links (mend_check hm) hn hl
  · unfold other
    rw [((mend_ex hm).links n hn hl).1]; simp
theorem mend_data (m : Img) {x : Nat} (hx : x < 9) : (mend m).of x = (if lost (mend2 m) x = true then 0 else m.of x) ∧ (mend m).text x = (if lost (mend2 m) x = true then ⟨#[]⟩ else m.text x) := by
  have h := clearTo_data (mend2 m) x 9
  have e1 : (mend2 m).of = m.of := by unfold mend2; rw [(setTo_dirs _ 8).2.2.2.1]; exact (dropTo_dirs m 8).2.2.2.1
  have e2 : (mend2 m).text = m.text := by unfold mend2; rw [(setTo_dirs _ 8).2.2.2.2]; exact (dropTo_dirs m 8).2.2.2.2
  rw [e1, e2] at h
  unfold mend
  rw [h.1, h.2]
  cases hl : lost (mend2 m) x
  · simp
  · simp [hx]
theorem mend_holds (m : Img) (x : Int) : (mend m).holds x = (mend2 m).holds x := clearTo_holds _ _ _
theorem full2 (m : Img) (x : Nat) : full (mend2 m) x = full m x := by
  have e1 : (mend2 m).of = m.of := by unfold mend2; rw [(setTo_dirs _ 8).2.2.2.1]; exact (dropTo_dirs m 8).2.2.2.1
  have e2 : (mend2 m).text = m.text := by unfold mend2; rw [(setTo_dirs _ 8).2.2.2.2]; exact (dropTo_dirs m 8).2.2.2.2
  unfold full; rw [e1, e2]
theorem again_lost (m : Img) {x : Nat} (hx : x < 9) : lost (mend m) x = false := by
  have h := mend_data m hx
  cases hl : lost (mend2 m) x
  · rw [hl] at h
    unfold lost at hl ⊢
    rw [mend_holds]
    have e : full (mend m) x = full (mend2 m) x := by rw [full2]; unfold full; rw [h.1, h.2]; rfl
    rw [e]; exact hl
  · rw [hl] at h
    unfold lost
    have e : full (mend m) x = false := by unfold full; rw [h.1, h.2, if_pos rfl, if_pos rfl, nil_list]; rfl
    rw [e]; rfl
theorem again1 (hm : m.check = 0) : mend1 (mend m) = mend m := dropTo_same 8 fun _ hn => again_goes hm hn
theorem again2 (hm : m.check = 0) : mend2 (mend m) = mend m := by
  unfold mend2; rw [again1 hm]; exact setTo_same 8 fun _ hn => again_other hm hn
theorem again (hm : m.check = 0) : mend (mend m) = mend m ∧ lostF (mend m) = 0 ∧ lostC (mend m) = 0 ∧ lostD (mend m) = 0 := by
  refine ⟨?_, ?_, ?_, ?_⟩
  · have : mend (mend m) = clearTo (mend2 (mend m)) 9 := rfl
    rw [this, again2 hm]; exact clearTo_same 9 fun _ hn => again_lost m hn
  · exact cnt_none fun _ hn => again_goes hm hn
  · unfold lostC; rw [again1 hm]; exact cnt_none fun _ hn => again_other hm hn
  · unfold lostD; rw [again2 hm]; exact cnt_none fun _ hn => again_lost m hn
/-! what is named -/
theorem leads_stays {d s n : Nat} (hd : d < 3) (hs : s < 4) (hl : m.leads (n : Int) d s = true) : goes m n = false := by
  have := refs_pos_of_leads hd hs hl
  unfold goes
  have h0 : m.refs (n : Int) ≠ 0 := by omega
  cases m.live n
  · rfl
  · simpa using h0
structure Named (m : Img) (d s n : Nat) : Prop where
  n8 : n < 8
  ino : m.ino d s = (n : Int)
  live : (mend m).live n = true
  stamp : (mend m).stamp n = m.stamp n
  part : ∀ p, p < 2 → (mend m).part n p = m.part n p
  data : ∀ p, p < 2 → 0 ≤ m.part n p → ∃ x : Nat, x < 9 ∧ m.part n p = (x : Int) ∧ (mend m).of x = m.of x ∧ (mend m).text x = m.text x
theorem named_kept (hm : m.check = 0) {d s : Nat} (hd : d < 3) (hs : s < 4) (hn : m.named d s = true) : ∃ n, Named m d s n := by
  have k := (slot_ok hn).1 ((well_iff.1 hm).slot d s hd hs)
  obtain ⟨n, hi⟩ := Int.eq_ofNat_of_zero_le k.lo
  have h8 := k.hi
  have hlv := k.live
  rw [hi, Int.toNat_natCast] at hlv
  have hle : m.leads (n : Int) d s = true := by unfold leads; rw [hn, hi]; simp
  have hg := leads_stays hd hs hle
  have n8 : n < 8 := by omega
  have l := left n8 hg
  refine ⟨n, n8, hi, by rw [l.live]; exact hlv, l.stamp, l.part, fun p hp h0 => ?_⟩
  have ok := (inode_parts_ok hm n8 hlv).2.2 p hp
  rw [checkPart_iff] at ok
  rcases ok with e | ⟨e, _⟩
  · omega
  have hb : 0 ≤ m.part n p ∧ m.part n p < 9 := by simpa [isD] using e
  obtain ⟨x, hx⟩ := Int.eq_ofNat_of_zero_le h0
  have x9 : x < 9 := by omega
  have hh : (mend2 m).holds (x : Int) = true := by
    rw [← mend_holds]
    cases hq : (mend m).holds (x : Int)
    · have := mholds_not x9 hq n8 hp (by rw [l.live]; exact hlv)
      rw [l.part p hp] at this
      exact absurd hx this
    · rfl
  have hno : lost (mend2 m) x = false := by unfold lost; rw [hh]; simp
  have hd2 := mend_data m x9
  rw [hno] at hd2
  exact ⟨x, x9, hx, by simpa using hd2.1, by simpa using hd2.2⟩
/-! what is counted -/
theorem count_files {n : Nat} (hn : n < 8) : (m.live n && !(mend m).live n) = goes m n := by
  rw [mend_live hn]
  unfold goes
  cases m.live n <;> simp
theorem count_links (hm : m.check = 0) {n : Nat} (hn : n < 8) : ((mend m).live n && !(m.links n == (mend m).links n)) = other (mend1 m) n := by
  have e1 := dropTo_inode m n 8
  cases hg : goes m n
  · rw [if_neg (by intro z; rw [hg] at z; cases z.2)] at e1
    have l := left hn hg
    unfold other
    rw [l.live, l.links, show (mend1 m).refs (n : Int) = m.refs (n : Int) from dropTo_refs m 8 _, show (mend1 m).links n = m.links n from (inode_eq e1).2.2.1]
    cases hl : m.live n
    · have := free_links hm hn hl
      unfold other at this
      rw [this]; rfl
    · rfl
  · rw [if_pos ⟨hn, hg⟩] at e1
    have h := gone hn hg
    unfold other
    rw [h.1, show (mend1 m).refs (n : Int) = m.refs (n : Int) from dropTo_refs m 8 _, h.2.2, show (mend1 m).links n = 0 from (inode_is e1).2.2.1]
    rfl
theorem count_more (hm : m.check = 0) {n : Nat} (hn : n < 8) (hl : (mend m).live n = true) : (mend m).links n ≤ m.links n := by
  cases hg : goes m n
  · have l := left hn hg
    rw [l.live] at hl
    rw [l.links]
    exact (inode_parts_ok hm hn hl).2.1
  · rw [(gone hn hg).1] at hl; cases hl
theorem full_empty {o : Int} {t : ByteArray} (h : (o == 0 && t.toList == []) = true) : o = 0 ∧ t.toList = [] := by simpa using h
theorem count_data {x : Nat} (hx : x < 9) : (!(m.of x == (mend m).of x && (m.text x).toList == ((mend m).text x).toList)) = lost (mend2 m) x := by
  have h := mend_data m hx
  rw [h.1, h.2]
  cases hl : lost (mend2 m) x
  · simp
  · rw [if_pos rfl, if_pos rfl]
    have : full m x = true := by
      rw [← full2]; unfold lost at hl; rw [Bool.and_eq_true] at hl; exact hl.1
    rw [nil_list]
    exact this
theorem count_zero {x : Nat} (hx : x < 9) (hl : lost (mend2 m) x = true) : (mend m).of x = 0 ∧ (mend m).text x = ⟨#[]⟩ := by
  have h := mend_data m hx
  rw [hl] at h
  exact ⟨by simpa using h.1, by simpa using h.2⟩
end Img
end Go.Proofs.Ytmlhalhjfcfagab
