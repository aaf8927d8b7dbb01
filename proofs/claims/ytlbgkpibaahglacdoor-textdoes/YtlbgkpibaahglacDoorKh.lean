/-
  The law TextBack.
-/
import Derived.Test.YtlbgkpibaahglacDoorKg
set_option linter.unusedVariables false
namespace Go.Proofs.YtlbgkpibaahglacDoor
open Go.RowKit
theorem mk_self (s : ByteArray) : (⟨s.toList.toArray⟩ : ByteArray) = s := by
  rw [ByteArray.toList_eq]
theorem beq_shows (a b : List UInt8) : (Txt.shows a == Txt.shows b) = (b == a) := by
  rw [Bool.eq_iff_iff, beq_iff_eq, beq_iff_eq, Txt.shows_inj]
  exact ⟨fun h => h.symm, fun h => h.symm⟩
set_option maxHeartbeats 2000000 in
set_option maxRecDepth 100000 in
theorem textBack_any (s t : ByteArray) (hs : s.size ≤ 140737488355328) (ht : t.size ≤ 140737488355328) (w : World) (tb : Tab w) :
    Calls Tryd.prog 4 #[.string s, .string t] w fun e w' => e = .returned (.bool true) ∧ Below w.heap.size w w' := by
  have hbg := textBegun_any w tb
  have hw : wrap64 ((s.size : Int) + (t.size : Int)) = (s.size : Int) + (t.size : Int) := (by unfold wrap64; omega)
  by_cases hbig : 2000 < s.size + t.size
  case pos =>
    have q0 : decide ((2000 : Int) < (s.size : Int) + (t.size : Int)) = true := by simp; omega
    clear hbig
    go_enter Tryd.func4, Tryd.ntmps4
    go_wp2_with fail
    refine hbg.mono ?_
    rintro e w1 ⟨rfl, b1⟩
    have B1 := hide b1
    clear b1 hbg
    go_wp2_with fail
    go_ret
    exact ⟨rfl, unhide B1⟩
  have q0 : decide ((2000 : Int) < (s.size : Int) + (t.size : Int)) = false := by simp; omega
  have S1 := hide (fun V => Show_any s (by omega) V)
  have S2 := hide (fun V => Show_any t (by omega) V)
  obtain ⟨A, hA⟩ : ∃ A : ByteArray, A = ⟨(Txt.shows s.toList).toArray⟩ := ⟨_, rfl⟩
  have AL := hide (show A.toList = Txt.shows s.toList by rw [hA, Lib_mk])
  have AZ := hide (show A.size ≤ 10000 by rw [hA, mk_size]; have := (Txt.showR_len s.toList).2; rw [len_bytes] at this; show (Txt.showR s.toList).length + 1 ≤ _; omega)
  have VS := hide (fun k (hk : k < A.size) => show 33 ≤ (A[k]).toNat ∧ (A[k]).toNat ≤ 126 from Txt.shows_vis s.toList _ (by rw [← unhide AL, ByteArray.toList_eq]; exact List.getElem_mem (l := A.data.toList) (n := k) hk))
  have M1 := hide (fun V => Mean_yes A s.toList (unhide AL) (by have := unhide AZ; omega) V)
  rw [mk_self] at M1
  rw [← hA] at S1
  have QB := hide (beq_shows t.toList s.toList)
  have QT := hide (show (⟨(Txt.shows t.toList).toArray⟩ : ByteArray).toList = Txt.shows t.toList from Lib_mk _)
  have M2 := hide (fun V => Mean_any t (by omega) V)
  have S3 := hide (fun l (h : t.toList = Txt.shows l) V => Show_any (mkb l) (by rw [mk_size]; have := congrArg List.length h; have h2 := (Txt.showR_len l).1; rw [len_bytes] at this; rw [show (Txt.shows l).length = (Txt.showR l).length + 1 from rfl] at this; omega) V)
  clear hbig hA hs ht tb
  go_enter Tryd.func4, Tryd.ntmps4
  go_wp2_with fail
  refine hbg.mono ?_
  rintro e w1 ⟨rfl, b1⟩
  have B1 := hide b1
  clear b1 hbg
  go_wp2_with fail
  refine (unhide S1 _).mono ?_
  rintro e w2 ⟨rfl, b2⟩
  have B2 := hide (show Below w.heap.size w w2 from (unhide B1).trans (b2.mono (unhide B1).size))
  clear b2 B1 S1
  go_wp2_with fail
  refine (unhide M1 _).mono ?_
  rintro e w3 ⟨rfl, b3⟩
  have B3 := hide (show Below w.heap.size w w3 from (unhide B2).trans (b3.mono (unhide B2).size))
  clear b3 B2 M1
  go_wp2_with fail
  refine (unhide S2 _).mono ?_
  rintro e w4 ⟨rfl, b4⟩
  have B4 := hide (show Below w.heap.size w w4 from (unhide B3).trans (b4.mono (unhide B3).size))
  clear b4 B3 S2
  have al := unhide AL
  have qb := unhide QB
  cases hq : (s.toList == t.toList) <;> rw [hq] at qb
  all_goals
    go_wp2_with fail
    clear al qb hq
    go_loopw [8] (fun i wr => ∃ k : Nat, k ≤ A.size ∧ i = .int .i64 k ∧ wr = w4) (fun i _ => A.size - (intOf i).toNat)
    case atStart => exact ⟨0, Nat.zero_le _, rfl, rfl⟩
    case round =>
      obtain ⟨k, hk, rfl, rfl⟩ := hrel
      by_cases hlt : k < A.size
      case pos =>
        have hz : (k : Int) < (A.size : Int) := by omega
        have az := unhide AZ
        obtain ⟨v1, v2⟩ := unhide VS k hlt
        have n1 : ¬ (A[k]).toNat < 33 := by omega
        have n2 : ¬ 126 < (A[k]).toNat := by omega
        clear v1 v2
        go_wp2_with fail
        go_roundw
        case rel => exact ⟨k + 1, by omega, by go_num, by first | rfl | trivial⟩
        case measure => simp [intOf]; omega
      case neg =>
        have hz : ¬ (k : Int) < (A.size : Int) := by omega
        go_wp2_with fail
        refine (unhide M2 _).mono ?_
        rintro e w5 ⟨he, b5⟩
        have B5 := hide (show Below w.heap.size w w5 from (unhide B4).trans (b5.mono (unhide B4).size))
        clear b5
        rcases he with ⟨l, hl, rfl⟩ | ⟨hn, rfl⟩
        · have S5 := hide (unhide S3 l hl w5)
          have EQ : ((Txt.shows l) == t.toList) = true := by rw [hl]; simp
          have ML := hide (show (mkb l).toList = l from Lib_mk l)
          rw [unhide ML] at S5
          clear hl ML
          go_wp2_with fail
          refine (unhide S5).mono ?_
          rintro e w6 ⟨rfl, b6⟩
          have B6 := hide (show Below w.heap.size w w6 from (unhide B5).trans (b6.mono (unhide B5).size))
          clear b6 S5
          go_wp2_with fail
          go_ret
          exact ⟨rfl, unhide B6⟩
        · clear hn
          go_wp2_with fail
          go_ret
          exact ⟨rfl, unhide B5⟩
end Go.Proofs.YtlbgkpibaahglacDoor
