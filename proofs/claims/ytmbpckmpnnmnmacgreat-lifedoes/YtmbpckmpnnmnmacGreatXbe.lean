/-
  The walk of eiderdownref.MendOf. (Written by gengh.py.)
-/
import Derived.Test.YtmbpckmpnnmnmacGreatZz
import Derived.Test.YtmbpckmpnnmnmacGreatXaz
import Derived.Test.YtmbpckmpnnmnmacGreatXba
import Derived.Test.YtmbpckmpnnmnmacGreatXbd
namespace Go.Proofs.YtmbpckmpnnmnmacGreat
open Go.RowKit
namespace Img
variable {m : Img}
def rTo (m : Img) : Nat → Img
  | 0 => m
  | n + 1 => if goes m n = true then (rTo m n).putIno n Ino.none else if (m.live n && other m n) = true then relink (rTo m n) n else rTo m n
def rCnt (m : Img) (n : Nat) : Bool := !goes m n && (m.live n && other m n)
theorem rTo_dirs (m : Img) : ∀ k, (rTo m k).name = m.name ∧ (rTo m k).ino = m.ino ∧ (rTo m k).est = m.est ∧ (rTo m k).of = m.of ∧ (rTo m k).text = m.text
  | 0 => ⟨rfl, rfl, rfl, rfl, rfl⟩
  | k + 1 => by
    have := rTo_dirs m k
    unfold rTo
    split
    · exact this
    · split
      · exact this
      · exact this
theorem rTo_refs (m : Img) (k : Nat) (i : Int) : (rTo m k).refs i = m.refs i := refs_of_dirs (rTo_dirs m k).1 (rTo_dirs m k).2.1 i
def rIno (m : Img) (n : Nat) : Ino := if goes m n = true then Ino.none else if (m.live n && other m n) = true then lnkd m n else m.inode n
theorem rTo_inode (m : Img) (n : Nat) : ∀ k, (rTo m k).inode n = if n < k then rIno m n else m.inode n
  | 0 => by simp [rTo]
  | k + 1 => by
    have ih := rTo_inode m n k
    by_cases e : n = k
    · subst e
      rw [if_pos (by omega)]
      rw [if_neg (by omega)] at ih
      unfold rTo rIno
      by_cases hg : goes m n = true
      · rw [if_pos hg, if_pos hg, putIno_at]
      · rw [if_neg hg, if_neg hg]
        by_cases ho : (m.live n && other m n) = true
        · rw [if_pos ho, if_pos ho, relink_at]
          obtain ⟨g1, g2, g3, g4⟩ := inode_eq ih
          unfold lnkd
          rw [g1, g2, g4 0 (by omega), g4 1 (by omega), rTo_refs]
        · rw [if_neg ho, if_neg ho, ih]
    · have e2 : (rTo m (k + 1)).inode n = (rTo m k).inode n := by
        show (if goes m k = true then (rTo m k).putIno k Ino.none else if (m.live k && other m k) = true then relink (rTo m k) k else rTo m k).inode n = _
        split
        · exact putIno_other _ _ e
        · split
          · exact putIno_other _ _ e
          · rfl
      rw [e2, ih]
      by_cases h : n < k
      · rw [if_pos h, if_pos (by omega)]
      · rw [if_neg h, if_neg (by omega)]
theorem rIno_mend (hm : m.check = 0) {n : Nat} (hn : n < 8) : rIno m n = (mend2 m).inode n := by
  obtain ⟨a1, a2, a3, a4, _⟩ := clearTo_rest (mend2 m) 9
  have e : (mend m).inode n = (mend2 m).inode n := by unfold mend inode; rw [a1, a2, a3, a4]
  rw [← e, mend_inode m hn]
  unfold rIno
  by_cases hg : goes m n = true
  · rw [if_pos hg, if_pos hg]
    have : m.refs (n : Int) = 0 := by unfold goes at hg; simp at hg; exact hg.2
    rw [this]; rfl
  · rw [if_neg hg, if_neg hg]
    by_cases ho : (m.live n && other m n) = true
    · rw [if_pos ho]
    · rw [if_neg ho]
      have hno : other m n = false := by
        cases hl : m.live n
        · exact free_links hm hn hl
        · rw [hl] at ho; simpa using ho
      unfold other at hno
      have hl : m.links n = (m.refs (n : Int) : Int) := by simpa using hno
      unfold lnkd inode; rw [hl]
theorem rTo_agree (hm : m.check = 0) : Agree (rTo m 8) (mend2 m) := by
  have hi : ∀ n, n < 8 → (rTo m 8).inode n = (mend2 m).inode n := fun n hn => by rw [rTo_inode, if_pos hn, rIno_mend hm hn]
  obtain ⟨d1, d2, d3, d4, d5⟩ := rTo_dirs m 8
  have e1 : (mend2 m).name = m.name := by unfold mend2; rw [(setTo_dirs _ 8).1]; exact (dropTo_dirs m 8).1
  have e2 : (mend2 m).ino = m.ino := by unfold mend2; rw [(setTo_dirs _ 8).2.1]; exact (dropTo_dirs m 8).2.1
  have e3 : (mend2 m).est = m.est := by unfold mend2; rw [(setTo_dirs _ 8).2.2.1]; exact (dropTo_dirs m 8).2.2.1
  have e4 : (mend2 m).of = m.of := by unfold mend2; rw [(setTo_dirs _ 8).2.2.2.1]; exact (dropTo_dirs m 8).2.2.2.1
  have e5 : (mend2 m).text = m.text := by unfold mend2; rw [(setTo_dirs _ 8).2.2.2.2]; exact (dropTo_dirs m 8).2.2.2.2
  exact ⟨fun n hn => (inode_eq (hi n hn)).1, fun n hn => (inode_eq (hi n hn)).2.1, fun n hn => (inode_eq (hi n hn)).2.2.1, fun n p hn hp => (inode_eq (hi n hn)).2.2.2 p hp, fun d s _ _ => by rw [d1, e1], fun d s _ _ => by rw [d2, e2], fun d s _ _ => by rw [d3, e3], fun x _ => by rw [d4, e4], fun x _ => by rw [d5, e5]⟩
theorem rCnt_eq (hm : m.check = 0) {n : Nat} (hn : n < 8) : rCnt m n = other (mend1 m) n := by
  have e1 := dropTo_inode m n 8
  unfold rCnt
  cases hg : goes m n
  · rw [if_neg (by intro z; rw [hg] at z; cases z.2)] at e1
    have : other (mend1 m) n = other m n := by
      unfold other
      rw [show (mend1 m).refs (n : Int) = m.refs (n : Int) from dropTo_refs m 8 _, show (mend1 m).links n = m.links n from (inode_eq e1).2.2.1]
    rw [this]
    cases hl : m.live n
    · rw [free_links hm hn hl]; rfl
    · simp
  · rw [if_pos ⟨hn, hg⟩] at e1
    have h0 : m.refs (n : Int) = 0 := by unfold goes at hg; simp at hg; exact hg.2
    unfold other
    rw [show (mend1 m).refs (n : Int) = m.refs (n : Int) from dropTo_refs m 8 _, h0, show (mend1 m).links n = 0 from (inode_is e1).2.2.1]
    rfl
theorem rTo_live (m : Img) (n : Nat) : (rTo m n).live n = m.live n ∧ (rTo m n).links n = m.links n := by
  have := rTo_inode m n n
  rw [if_neg (by omega)] at this
  exact ⟨(inode_eq this).1, (inode_eq this).2.2.1⟩
theorem rTo_goes {n : Nat} (h : goes m n = true) : rTo m (n + 1) = (rTo m n).putIno n Ino.none := if_pos h
theorem rTo_link {n : Nat} (h : goes m n = false) (h2 : (m.live n && other m n) = true) : rTo m (n + 1) = relink (rTo m n) n := by
  show (if goes m n = true then _ else if (m.live n && other m n) = true then _ else _) = _
  rw [if_neg (by rw [h]; simp), if_pos h2]
theorem rTo_same {n : Nat} (h : goes m n = false) (h2 : (m.live n && other m n) = false) : rTo m (n + 1) = rTo m n := by
  show (if goes m n = true then _ else if (m.live n && other m n) = true then _ else _) = _
  rw [if_neg (by rw [h]; simp), if_neg (by rw [h2]; simp)]
end Img
theorem IsImg.cast {c : Array Value} {K M : Img} (h : IsImg c K) (ha : Img.Agree K M) (h1 : ∀ d s, (M.name d s).size ≤ maxLen) (h2 : ∀ x, (M.text x).size ≤ maxLen) : IsImg c M :=
  ⟨h.size, fun n hn => by rw [← ha.live n hn]; exact h.live n hn, fun n hn => by rw [← ha.stamp n hn]; exact h.stamp n hn, fun n hn => by rw [← ha.links n hn]; exact h.links n hn, fun n p hn hp => by rw [← ha.part n p hn hp]; exact h.part n p hn hp, fun d s hd hs => by rw [← ha.name d s hd hs]; exact h.name d s hd hs, fun d s hd hs => by rw [← ha.ino d s hd hs]; exact h.ino d s hd hs, fun d s hd hs => by rw [← ha.est d s hd hs]; exact h.est d s hd hs, fun x hx => by rw [← ha.of x hx]; exact h.of x hx, fun x hx => by rw [← ha.text x hx]; exact h.text x hx, h1, h2⟩
theorem mend2_cast {c : Array Value} {m : Img} (h : IsImg c (Img.rTo m 8)) (hm : m.check = 0) (hi : ∀ d s, (m.name d s).size ≤ maxLen) (ht : ∀ x, (m.text x).size ≤ maxLen) : IsImg c (Img.mend2 m) :=
  h.cast (Img.rTo_agree hm) (fun d s => by have : (Img.mend2 m).name = m.name := by (unfold Img.mend2; rw [(Img.setTo_dirs _ 8).1]; exact (Img.dropTo_dirs m 8).1)
                                           rw [this]; exact hi d s)
    (fun x => by have : (Img.mend2 m).text = m.text := by (unfold Img.mend2; rw [(Img.setTo_dirs _ 8).2.2.2.2]; exact (Img.dropTo_dirs m 8).2.2.2.2)
                 rw [this]; exact ht x)
theorem arr_under : Tryz.prog.underlying 78 = some (.array 3 3) := by kernel_rfl
theorem arr_info : (Tryz.prog.info? 78).map (·.size) = some 3 := by kernel_rfl
set_option maxRecDepth 100000 in
set_option maxHeartbeats 8000000 in
theorem mendOf_ok (cs : Array Value) (m : Img) (hi : IsImg cs m) (hc : m.check = 0) (w : World) :
    Calls Tryz.prog 43 #[.agg cs] w fun e w' => MendIs m e ∧ Below w.heap.size w w' := by
  have z := zero_img.1
  have bz := build_img
  have zz := zero_sz
  have B1 := hide ((((By.start w).box cs 44).box zeroCells 44).box #[.int .i64 0, .int .i64 0, .int .i64 0] 78)
  have CK := hide (fault_any w.heap.size m _ ((unhide B1).has (by simp) hi))
  have e1 : (w.alloc (.cells cs 44)).heap.size = w.heap.size + 1 := by simp
  have e2 : ((w.alloc (.cells cs 44)).alloc (.cells zeroCells 44)).heap.size = w.heap.size + 2 := by simp
  rw [e1, e2] at B1
  clear e1 e2
  go_enter Tryz.func43, Tryz.ntmps43
  have HC := hide hc
  clear hc
  go_wp2_with fail
  refine (unhide CK).mono ?_
  rintro e w1 ⟨⟨c00, rfl, hc00⟩, b1⟩
  have c00z : c00 = 0 := hc00.2 (unhide HC)
  subst c00z
  clear hc00
  have B2 := hide (((unhide B1).call b1).box #[.int .i64 0, .int .i64 0, .int .i64 0] 78)
  clear b1 B1 CK
  go_wp2_with fail
  generalize w1.alloc (.cells #[.int .i64 0, .int .i64 0, .int .i64 0] 78) = X1 at B2 ⊢
  generalize w1.heap.size = g6 at B2 ⊢
  rw [show w.heap.size + 1 + 1 = w.heap.size + 2 from rfl]
  generalize hg3 : w.heap.size + 2 = g3 at B2 ⊢
  generalize hg2 : w.heap.size + 1 = g2 at B2 ⊢
  generalize hg1 : w.heap.size = g1 at B2 ⊢
  go_loopw [7] (fun i wr => ∃ kk : Nat, kk ≤ 8 ∧ i = .int .i64 kk ∧ ∃ c1, Hid (By w wr ((g6, #[(.int .i64 (Img.cnt (Img.goes m) kk : Nat)), (.int .i64 (Img.cnt (Img.rCnt m) kk : Nat)), .int .i64 0], 78) :: (g3, #[.int .i64 0, .int .i64 0, .int .i64 0], 78) :: (g2, zeroCells, 44) :: (g1, c1, 44) :: [])) ∧ Hid (IsImg c1 (Img.rTo m kk))) (fun i _ => 8 - (intOf i).toNat)
  case atStart => exact ⟨0, by omega, rfl, cs, B2, hide hi⟩
  case round =>
    clear B2
    obtain ⟨kk, hk, rfl, c1, BK, HI⟩ := hrel
    by_cases hlt : kk < 8
    case pos =>
      have t8 : decide ((kk : Int) < 8) = true := by simp; omega
      have jz : (kk : Int) < 8 := by omega
      have b1 := Img.cnt_le (Img.goes m) kk
      have b2 := Img.cnt_le (Img.rCnt m) kk
      have r1 := hide ((unhide BK).row (g1, c1, 44) (.tail _ (.tail _ (.tail _ (.head _)))))
      have r6 := hide ((unhide BK).row (g6, _, 78) (.head _))
      have hh := has_of_row (unhide r1) (unhide HI)
      have hl := hh.live kk hlt
      have hk2 := hh.links kk hlt
      rw [(Img.rTo_live m kk).1] at hl
      rw [(Img.rTo_live m kk).2] at hk2
      have RF := hide (rLeads_any g1 (Img.rTo m kk) (kk : Int) wr hh)
      rw [Img.rTo_refs] at RF
      clear hh
      cases hv : m.live kk <;> rw [hv] at hl
      case false =>
        have hg : Img.goes m kk = false := by unfold Img.goes; rw [hv]; rfl
        have ho : (m.live kk && Img.other m kk) = false := by rw [hv]; rfl
        have h1 := hide (Img.cnt_no hg)
        have h2 := hide (Img.cnt_no (p := Img.rCnt m) (n := kk) (by unfold Img.rCnt; rw [ho]; simp))
        have HD := hide (Img.rTo_same hg ho)
        clear hg ho hv r6
        go_wp2_with fail
        refine (unhide RF).mono ?_
        rintro e wq ⟨rfl, e9⟩
        rw [e9]
        clear e9 wq RF
        go_wp2_with fail
        go_roundw
        case rel => exact ⟨kk + 1, by omega, by go_num, c1, hide (by rw [unhide h1, unhide h2]; exact unhide BK), hide (by rw [unhide HD]; exact unhide HI)⟩
        case measure => simp [intOf]; omega
      case true =>
        by_cases hr : m.refs (kk : Int) = 0
        case pos =>
          have hg : Img.goes m kk = true := by unfold Img.goes; rw [hv, hr]; rfl
          have h1 := hide (Img.cnt_yes hg)
          have h2 := hide (Img.cnt_no (p := Img.rCnt m) (n := kk) (by unfold Img.rCnt; rw [hg]; rfl))
          have HD := hide (Img.rTo_goes hg)
          rw [hr] at RF
          have g0 : decide ((0 : Int) < 0) = false := by decide
          have hlq : (m.links kk == 0) = true ∨ (m.links kk == 0) = false := by cases (m.links kk == 0) <;> simp
          clear hg hv hr
          rcases hlq with lq | lq
          all_goals
            go_wp2_with fail
            refine (unhide RF).mono ?_
            rintro e wq ⟨rfl, e9⟩
            rw [e9]
            clear e9 wq RF
            go_wp2_with fail
            refine (none_any _).mono ?_
            rintro e w3 ⟨rfl, b3⟩
            have B3 := hide ((unhide BK).call b3)
            clear b3
            have M3 : Hid (Mu w3 w3 g1 c1) := hide (Mu.start ((unhide B3).row (g1, c1, 44) (.tail _ (.tail _ (.tail _ (.head _))))))
            have z1 := (unhide HI).size
            obtain ⟨v0, f0⟩ := (unhide M3).cell (i := kk * 5) (by omega)
            obtain ⟨v1, f1⟩ := (unhide M3).cell (i := kk * 5 + 1) (by omega)
            obtain ⟨v2, f2⟩ := (unhide M3).cell (i := kk * 5 + 1 + 1) (by omega)
            obtain ⟨v3, f3⟩ := (unhide M3).cell (i := kk * 5 + 1 + 1 + 1) (by omega)
            obtain ⟨v4, f4⟩ := (unhide M3).cell (i := kk * 5 + 1 + 1 + 1 + 1) (by omega)
            have fz := (unhide M3).frozen
            have hI := hide ((unhide HI).putIno (n := kk) hlt Ino.none)
            have M4 := hide ((((((unhide M3).set (kk * 5) (.bool false)).set (kk * 5 + 1) (.int .i64 0)).set (kk * 5 + 1 + 1) (.int .i64 0)).set (kk * 5 + 1 + 1 + 1) (.int .i64 (-1))).set (kk * 5 + 1 + 1 + 1 + 1) (.int .i64 (-1)))
            have B4 := hide ((unhide B3).mut3 (unhide M4).mv)
            have r6' := (unhide B4).row (g6, _, 78) (.head _)
            have q6 := cell_of_row _ _ 0 _ _ _ r6'
            have qz := fun i => frozen_of_row _ _ i _ _ r6'
            have B5 := hide ((unhide B4).mut0 (Mv.set0 (v := .int .i64 ((Img.cnt (Img.goes m) kk : Nat) + 1)) r6'))
            clear r6' M3 M4
            go_wp2_with fail
            go_roundw
            case rel => exact ⟨kk + 1, by omega, by go_num, _, hide (by rw [unhide h1, unhide h2]; exact unhide B5), hide (by rw [unhide HD]; exact unhide hI)⟩
            case measure => simp [intOf]; omega
        case neg =>
          have hg : Img.goes m kk = false := by unfold Img.goes; rw [hv]; simpa using hr
          have h1 := hide (Img.cnt_no hg)
          have g0 : decide (0 < ((m.refs (kk : Int) : Nat) : Int)) = true := by simp; omega
          have g1' : (((m.refs (kk : Int) : Nat) : Int) == 0) = false := by simpa using hr
          cases ho : Img.other m kk
          case false =>
            have hoo : (m.live kk && Img.other m kk) = false := by rw [hv, ho]; rfl
            have h2 := hide (Img.cnt_no (p := Img.rCnt m) (n := kk) (by unfold Img.rCnt; rw [hoo]; simp))
            have HD := hide (Img.rTo_same hg hoo)
            have lq : (m.links kk == ((m.refs (kk : Int) : Nat) : Int)) = true := by unfold Img.other at ho; simpa using ho
            generalize ((m.refs (kk : Int) : Nat) : Int) = rr at RF g0 g1' lq
            clear hg hv hr hoo ho r6
            go_wp2_with fail
            refine (unhide RF).mono ?_
            rintro e wq ⟨rfl, e9⟩
            rw [e9]
            clear e9 wq RF
            go_wp2_with fail
            go_roundw
            case rel => exact ⟨kk + 1, by omega, by go_num, c1, hide (by rw [unhide h1, unhide h2]; exact unhide BK), hide (by rw [unhide HD]; exact unhide HI)⟩
            case measure => simp [intOf]; omega
          case true =>
            have hoo : (m.live kk && Img.other m kk) = true := by rw [hv, ho]; rfl
            have h2 := hide (Img.cnt_yes (p := Img.rCnt m) (n := kk) (by unfold Img.rCnt; rw [hg, hoo]; rfl))
            have HD := hide (Img.rTo_link hg hoo)
            have lq : (m.links kk == ((m.refs (kk : Int) : Nat) : Int)) = false := by unfold Img.other at ho; simpa using ho
            have hI := hide ((unhide HI).mLinks (n := kk) hlt (m.refs (kk : Int) : Nat))
            have e0 : Img.relink (Img.rTo m kk) kk = (Img.rTo m kk).putIno kk ⟨(Img.rTo m kk).live kk, (Img.rTo m kk).stamp kk, (m.refs (kk : Int) : Nat), (Img.rTo m kk).part kk 0, (Img.rTo m kk).part kk 1⟩ := by unfold Img.relink; rw [Img.rTo_refs]
            rw [← e0] at hI
            clear e0
            generalize ((m.refs (kk : Int) : Nat) : Int) = rr at RF g0 g1' lq hI
            have M3 : Hid (Mu wr wr g1 c1) := hide (Mu.start (unhide r1))
            have fz := (unhide M3).frozen
            have B4 := hide ((unhide BK).mut3 ((unhide M3).set (kk * 5 + 2) (.int .i64 rr)).mv)
            have r6' := (unhide B4).row (g6, _, 78) (.head _)
            have q6 := cell_of_row _ _ 1 _ _ _ r6'
            have qz := fun i => frozen_of_row _ _ i _ _ r6'
            have B5 := hide ((unhide B4).mut0 (Mv.set1 (v := .int .i64 ((Img.cnt (Img.rCnt m) kk : Nat) + 1)) r6'))
            clear r6' M3 hg hv hr hoo ho r6 r1
            go_wp2_with fail
            refine (unhide RF).mono ?_
            rintro e wq ⟨rfl, e9⟩
            rw [e9]
            clear e9 wq RF
            go_wp2_with fail
            go_roundw
            case rel => exact ⟨kk + 1, by omega, by go_num, _, hide (by rw [unhide h1, unhide h2]; exact unhide B5), hide (by rw [unhide HD]; exact unhide hI)⟩
            case measure => simp [intOf]; omega
    case neg =>
      have e8 : kk = 8 := by omega
      subst e8
      have I2 := hide (mend2_cast (unhide HI) (unhide HC) hi.small hi.short)
      obtain ⟨nf, ef⟩ : ∃ n : Int, n = (Img.lostF m : Nat) := ⟨_, rfl⟩
      obtain ⟨nc, ec⟩ : ∃ n : Int, n = (Img.lostC m : Nat) := ⟨_, rfl⟩
      have ec2 : ((Img.cnt (Img.rCnt m) 8 : Nat) : Int) = nc := by rw [ec, Img.lostC, Img.cnt_congr (fun n hn => Img.rCnt_eq (unhide HC) hn)]
      have BL : Hid (By w wr ((g6, #[.int .i64 nf, .int .i64 nc, .int .i64 (Img.cnt (Img.lost (Img.mend2 m)) 0 : Nat)], 78) :: (g3, #[.int .i64 0, .int .i64 0, .int .i64 0], 78) :: (g2, zeroCells, 44) :: (g1, c1, 44) :: [])) := hide (by have := unhide BK; rw [show ((Img.cnt (Img.goes m) 8 : Nat) : Int) = nf from ef.symm, ec2] at this; exact this)
      have EF := hide ef
      have EC := hide ec
      clear BK HI ef ec ec2
      go_wp2_with fail
      go_loopw [9] (fun i wr => ∃ kk : Nat, kk ≤ 9 ∧ i = .int .i64 kk ∧ ∃ c1, Hid (By w wr ((g6, #[.int .i64 nf, .int .i64 nc, .int .i64 (Img.cnt (Img.lost (Img.mend2 m)) kk : Nat)], 78) :: (g3, #[.int .i64 0, .int .i64 0, .int .i64 0], 78) :: (g2, zeroCells, 44) :: (g1, c1, 44) :: [])) ∧ Hid (IsImg c1 (Img.clearTo (Img.mend2 m) kk))) (fun i _ => 9 - (intOf i).toNat)
      case atStart => exact ⟨0, by omega, rfl, c1, BL, I2⟩
      case round =>
        clear BL I2
        obtain ⟨kk, hk9, rfl, c1, BK, HI⟩ := hrel
        by_cases hlt : kk < 9
        case pos =>
          have t9 : decide ((kk : Int) < 9) = true := by simp; omega
          have jz : (kk : Int) < 9 := by omega
          have b1 := Img.cnt_le (Img.lost (Img.mend2 m)) kk
          have r1 := hide ((unhide BK).row (g1, c1, 44) (.tail _ (.tail _ (.tail _ (.head _)))))
          have hh := has_of_row (unhide r1) (unhide HI)
          have q1 := hh.of kk hlt
          have q2 := hh.text kk hlt
          rw [(Img.clearTo_at (Img.mend2 m) kk).1] at q1
          rw [(Img.clearTo_at (Img.mend2 m) kk).2] at q2
          have RF := hide (rHeld_any (ob := 0) g1 (Img.clearTo (Img.mend2 m) kk) (kk : Int) wr hh.at)
          rw [Img.held_isD hlt, Img.clearTo_holds] at RF
          clear hh
          generalize hM : Img.mend2 m = M at *
          cases hh : M.holds (kk : Int) <;> rw [hh] at RF
          case true =>
            have hg : Img.lost M kk = false := by unfold Img.lost; rw [hh]; simp
            have h1 := hide (Img.cnt_no hg)
            have HD := hide (Img.clearTo_no hg)
            clear hg hh
            go_wp2_with fail
            refine (unhide RF).mono ?_
            rintro e wq ⟨rfl, e9⟩
            rw [e9]
            clear e9 wq RF
            go_wp2_with fail
            go_roundw
            case rel => first | exact ⟨kk + 1, by omega, by go_num, c1, hide (by rw [unhide h1]; exact unhide BK), hide (by rw [unhide HD]; exact unhide HI)⟩ | ((repeat apply Exists.intro); exact ⟨⟨kk + 1, by omega, by go_num, c1, hide (by rw [unhide h1]; exact unhide BK), hide (by rw [unhide HD]; exact unhide HI)⟩, rfl⟩)
            case measure => simp [intOf]; omega
          case false =>
            cases h0 : (M.of kk == 0) <;> cases h3 : (M.text kk).toList.isEmpty
            case true.true =>
              have hg : Img.lost M kk = false := by
                unfold Img.lost Img.full
                rw [h0, show ((M.text kk).toList == []) = true by simpa using h3]; rfl
              have h1 := hide (Img.cnt_no hg)
              have HD := hide (Img.clearTo_no hg)
              have h4 : (M.of kk != 0) = false := by simp [bne, h0]
              clear hg hh
              go_wp2_with fail
              refine (unhide RF).mono ?_
              rintro e wq ⟨rfl, e9⟩
              rw [e9]
              clear e9 wq RF
              go_wp2_with fail
              go_roundw
              case rel => first | exact ⟨kk + 1, by omega, by go_num, c1, hide (by rw [unhide h1]; exact unhide BK), hide (by rw [unhide HD]; exact unhide HI)⟩ | ((repeat apply Exists.intro); exact ⟨⟨kk + 1, by omega, by go_num, c1, hide (by rw [unhide h1]; exact unhide BK), hide (by rw [unhide HD]; exact unhide HI)⟩, rfl⟩)
              case measure => simp [intOf]; omega
            all_goals
              have hg : Img.lost M kk = true := by
                unfold Img.lost Img.full
                rw [hh]
                simp only [List.isEmpty_iff, List.isEmpty_eq_false_iff] at h3
                simp at h0
                simp [h0, h3]
              have h1 := hide (Img.cnt_yes hg)
              have HD := hide (Img.clearTo_yes hg)
              have h4 : (M.of kk != 0) = !(M.of kk == 0) := rfl
              rw [h0] at h4
              simp only [Bool.not_true, Bool.not_false] at h4
              have hI := hide ((unhide HI).putData (x := kk) hlt 0 ⟨#[]⟩ (Nat.zero_le _))
              have M3 : Hid (Mu wr wr g1 c1) := hide (Mu.start (unhide r1))
              have fz := (unhide M3).frozen
              have B4 := hide ((unhide BK).mut3 (((unhide M3).set (76 + kk * 2) (.int .i64 0)).set (76 + kk * 2 + 1) (.string ⟨#[]⟩)).mv)
              have r6' := (unhide B4).row (g6, _, 78) (.head _)
              have q6 := cell_of_row _ _ 2 _ _ _ r6'
              have qz := fun i => frozen_of_row _ _ i _ _ r6'
              have B5 := hide ((unhide B4).mut0 (Mv.set2 (v := .int .i64 ((Img.cnt (Img.lost M) kk : Nat) + 1)) r6'))
              clear r6' M3 hg hh
              go_wp2_with fail
              refine (unhide RF).mono ?_
              rintro e wq ⟨rfl, e9⟩
              rw [e9]
              clear e9 wq RF
              go_wp2_with fail
              go_roundw
              case rel => first | exact ⟨kk + 1, by omega, by go_num, _, hide (by rw [unhide h1]; exact unhide B5), hide (by rw [unhide HD]; exact unhide hI)⟩ | ((repeat apply Exists.intro); exact ⟨⟨kk + 1, by omega, by go_num, _, hide (by rw [unhide h1]; exact unhide B5), hide (by rw [unhide HD]; exact unhide hI)⟩, rfl⟩)
              case measure => simp [intOf]; omega
        case neg =>
          have e9 : kk = 9 := by omega
          subst e9
          have i3 : IsImg c1 (Img.mend m) := unhide HI
          have z3 := i3.size
          obtain ⟨nd, ed⟩ : ∃ n : Int, n = (Img.lostD m : Nat) := ⟨_, rfl⟩
          have BE := unhide BK
          rw [show ((Img.cnt (Img.lost (Img.mend2 m)) 9 : Nat) : Int) = nd from ed.symm] at BE
          have ED := hide ed
          have BE := hide BE
          clear BK HI ed
          go_wp2_with fail
          have B9 := hide ((unhide BE).call ((Below.refl _ wr).drew))
          clear BE
          have SK := hide (show ∀ W a b, By w W ((g6, #[.int .i64 nf, .int .i64 nc, .int .i64 nd], 78) :: (g3, a, 78) :: (g2, b, 44) :: (g1, c1, 44) :: []) → (fun W : World => W.heap[g1]? = some (.cells c1 44) ∧ W.heap[g6]? = some (.cells #[.int .i64 nf, .int .i64 nc, .int .i64 nd] 78)) W from fun W a b h => ⟨h.row (g1, c1, 44) (.tail _ (.tail _ (.tail _ (.head _)))), h.row (g6, _, 78) (.head _)⟩)
          have S0 := unhide SK _ _ _ (unhide B9)
          refine wp_region_held_drew (S := fun W : World => W.heap[g1]? = some (.cells c1 44) ∧ W.heap[g6]? = some (.cells #[.int .i64 nf, .int .i64 nc, .int .i64 nd] 78)) (by kernel_rfl) (S0) (fun hS => ?_)
          generalize wr.drew = X5 at hS B9 ⊢
          refine tkH (i := 0) (oi := ⟨some 91, .load 44 (.tmp 1), 44, "base.go:604", #[], none⟩) (v := .agg c1) (fun W h => run_exec_load_whole 44 (.tmp 1) (by kernel_rfl) g1 (by kernel_rfl) W 44 c1 (0, 0) _ h.1 img_under rfl (img_info z3)) hS ?_
          try simp only [Act.put, z1, z2, YtmbpckmpnnmnmacGreat.z3]
          refine tkH (i := 1) (oi := { dst := some 92, op := Op.load 78 (Operand.tmp 6), type := 78, pos := "base.go:604", after := #[{ on := 2, ground := Ground.gcOnly Departure.lateStores }], guard := none }) (v := .agg #[.int .i64 nf, .int .i64 nc, .int .i64 nd]) (fun W h => run_exec_load_whole 78 (.tmp 6) (by kernel_rfl) g6 (by kernel_rfl) W 78 #[.int .i64 nf, .int .i64 nc, .int .i64 nd] (0, 0) _ h.2 arr_under rfl arr_info) hS ?_
          try simp only [Act.put, z1, z2, YtmbpckmpnnmnmacGreat.z3]
          have R2 := (unhide B9).row (g2, zeroCells, 44) (by simp)
          have BA := hide ((unhide B9).mut2 (Mv.row' R2 c1))
          have R3 := (unhide BA).row (g3, #[.int .i64 0, .int .i64 0, .int .i64 0], 78) (.tail _ (.head _))
          have BB := hide ((unhide BA).mut1 (Mv.row' R3 #[.int .i64 nf, .int .i64 nc, .int .i64 nd]))
          refine wpAnyH_ready (rs := [2]) (by kernel_rfl) (by simp) ?_
          refine AllReadyH.cons (o := { dst := none, op := Op.store 44 (Operand.tmp 2) (Operand.tmp 91), type := 0, pos := "base.go:604", after := #[⟨0, .data⟩, ⟨0, .phase⟩, { on := 1, ground := Ground.textOnly Departure.lateStores }], guard := none }) rfl (fun K hK => ?_) AllReadyH.nil
          rw [if_pos (by kernel_rfl)]
          refine wp_store_row 44 (.tmp 2) (.tmp 91) rfl g2 c1 (by kernel_rfl) (by kernel_rfl) 44 zeroCells R2 (img_info z3) (zero_size i3) i3.all ?_
          refine hK.out _ _ (unhide SK _ _ _ (unhide BA)) (fun hS2 => ?_)
          clear hK K
          try simp only [Act.put]
          refine wpAnyH_ready (rs := [3]) (by kernel_rfl) (by simp) ?_
          refine AllReadyH.cons (o := ⟨none, .store 78 (.tmp 3) (.tmp 92), 0, "base.go:604", #[⟨1, .data⟩, ⟨2, .chain⟩, ⟨0, .phase⟩, ⟨1, .phase⟩, ⟨2, .phase⟩], none⟩) rfl (fun K hK => ?_) AllReadyH.nil
          rw [if_pos (by kernel_rfl)]
          refine wp_store_row 78 (.tmp 3) (.tmp 92) rfl g3 #[.int .i64 nf, .int .i64 nc, .int .i64 nd] (by kernel_rfl) (by kernel_rfl) 78 #[.int .i64 0, .int .i64 0, .int .i64 0] R3 arr_info rfl (by kernel_rfl) ?_
          refine hK.out _ _ (unhide SK _ _ _ (unhide BB)) (fun hS3 => ?_)
          clear hK K
          try simp only [Act.put]
          refine tkP (i := 4) (oi := ⟨some 4, .assign (.const (.int .i64 0)), 3, "base.go:604", #[⟨3, .chain⟩, ⟨0, .phase⟩, ⟨1, .phase⟩, ⟨2, .phase⟩, ⟨3, .phase⟩], none⟩) (v := .int .i64 0) hS3 ?_
          try simp only [Act.put, z1, z2, YtmbpckmpnnmnmacGreat.z3]
          refine wpAnyH_done (by kernel_rfl) ?_ _
          go_wp2_with fail
          have MI : MendIs m (.returned (.tuple #[.agg c1, .agg #[.int .i64 nf, .int .i64 nc, .int .i64 nd], .int .i64 0])) := .inl ⟨unhide HC, c1, i3, by rw [unhide EF, unhide EC, unhide ED]; rfl⟩
          have lo1 : w.heap.size ≤ g1 := (unhide BB).lo (g1, c1, 44) (.tail _ (.tail _ (.tail _ (.head _))))
          rw [hg1] at lo1
          refine bodyPost_ret (v := .tuple #[.agg c1, .agg #[.int .i64 nf, .int .i64 nc, .int .i64 nd], .int .i64 0]) ?_ rfl ⟨MI, (by have := (unhide BB).below; rwa [hg1] at this)⟩
          exact results_rows (P := Tryz.prog) Tryz.results43 _ _ g2 g3 c1 #[.int .i64 nf, .int .i64 nc, .int .i64 nd] _ _ _ rfl rfl rfl ((unhide BB).row (g2, c1, 44) (.tail _ (.tail _ (.head _)))) ((unhide BB).row (g3, #[.int .i64 nf, .int .i64 nc, .int .i64 nd], 78) (.tail _ (.head _))) img_under rfl (img_info z3) arr_under rfl arr_info
end Go.Proofs.YtmbpckmpnnmnmacGreat
