/-
  The walk of eiderdownlaw.ImageFind.
-/
import Derived.Test.YtlppidpfiomdeaaWm
import Derived.Test.YtlppidpfiomdeaaPa
namespace Go.Proofs.Ytlppidpfiomdeaa
open Go.RowKit
theorem Uno.call {w wr w1 : World} {g : Nat} {c : Array Value} (h : Uno w wr g c) (hb : Below wr.heap.size wr w1) : Uno w w1 g c :=
  have := h.size
  have := h.lo
  have := hb.size
  ⟨h.below.trans (hb.mono (by omega)), h.lo, by omega, by rw [hb.block _ (by omega)]; exact h.b⟩
theorem Uno.box (w : World) (c : Array Value) : Uno w (w.alloc (.cells c 34)) w.heap.size c :=
  ⟨(Below.refl _ _).alloc (Nat.le_refl _) _, Nat.le_refl _, by simp, heap_alloc_last _ _⟩
theorem Uno.has {w wr : World} {g : Nat} {c : Array Value} (h : Uno w wr g c) (hk : Kinds c) : HasImg wr g (imgOf c) := has_of_row h.b hk.isImg
set_option maxHeartbeats 2000000 in
theorem imageFind_out (cs : Array Value) (hk : Kinds cs) (d : Int) (nm : ByteArray) (hnm : nm.size ≤ maxLen) (w : World) (hout : d < 0 ∨ 3 ≤ d ∨ nm.toList.isEmpty = true) :
    Calls Try.prog 5 #[.agg cs, .int .i64 d, .string nm] w fun e w' => e = .returned (.bool true) ∧ Below w.heap.size w w' := by
  unfold maxLen at hnm
  have U0 := hide (Uno.box w cs)
  have hi := hide (img_info hk.size)
  go_enter Try.func5, Try.ntmps5
  go_wp2_with fail
  refine (begun_any _).mono ?_
  rintro e w1 ⟨rfl, hb1⟩
  have U1 := hide ((unhide U0).call hb1)
  clear U0 hb1
  go_wp2_with (refine wpList_load_row rfl 34 _ rfl w.heap.size rfl 34 cs (0, 0) _ ?hl1 img_under rfl (unhide hi) ?_; exact (unhide U1).b)
  refine (great_any cs _ hk.isImg _).mono ?_
  rintro e w2 ⟨⟨v, rfl⟩, hb2⟩
  have U2 := hide ((unhide U1).call hb2)
  clear U1 hb2
  have hbel := hide (unhide U2).below
  cases v
  · by_cases h1 : 1000 < nm.size
    · clear hout
      go_wp2_with fail
      go_ret
      exact ⟨rfl, unhide hbel⟩
    by_cases h2 : d < 0
    · clear hout
      go_wp2_with fail
      go_ret
      exact ⟨rfl, unhide hbel⟩
    by_cases h3 : 3 ≤ d
    · clear hout
      go_wp2_with fail
      go_ret
      exact ⟨rfl, unhide hbel⟩
    have h4 : nm.toList.isEmpty = true := by
      rcases hout with x | x | x
      · exact absurd x h2
      · exact absurd x h3
      · exact x
    clear hout
    go_wp2_with fail
    go_ret
    exact ⟨rfl, unhide hbel⟩
  · clear hout
    go_wp2_with fail
    go_ret
    exact ⟨rfl, unhide hbel⟩
set_option maxHeartbeats 4000000 in
theorem imageFind_in (cs : Array Value) (hk : Kinds cs) (d : Nat) (hd : d < 3) (nm : ByteArray) (hnm : nm.size ≤ maxLen) (w : World) (h4 : nm.toList.isEmpty = false) :
    Calls Try.prog 5 #[.agg cs, .int .i64 d, .string nm] w fun e w' => e = .returned (.bool true) ∧ Below w.heap.size w w' := by
  have HK := hide (Img.firstI_cases (fun s => ((imgOf cs).name d s).toList == nm.toList) 4)
  unfold maxLen at hnm
  have U0 := hide (Uno.box w cs)
  have hi := hide (img_info hk.size)
  go_enter Try.func5, Try.ntmps5
  go_wp2_with fail
  refine (begun_any _).mono ?_
  rintro e w1 ⟨rfl, hb1⟩
  have U1 := hide ((unhide U0).call hb1)
  clear U0 hb1
  go_wp2_with (refine wpList_load_row rfl 34 _ rfl w.heap.size rfl 34 cs (0, 0) _ ?hl1 img_under rfl (unhide hi) ?_; exact (unhide U1).b)
  refine (great_any cs _ hk.isImg _).mono ?_
  rintro e w2 ⟨⟨v, rfl⟩, hb2⟩
  have U2 := hide ((unhide U1).call hb2)
  clear U1 hb2
  have hbel := hide (unhide U2).below
  cases v
  case true =>
    go_wp2_with fail
    go_ret
    exact ⟨rfl, unhide hbel⟩
  by_cases h1 : 1000 < nm.size
  · go_wp2_with fail
    go_ret
    exact ⟨rfl, unhide hbel⟩
  have hn := ((unhide U2).has hk).name
  go_wp2_with fail
  refine (find_in _ (imgOf cs) d hd nm h4 _ ((unhide U2).has hk)).mono ?_
  rintro e w3 ⟨rfl, rfl⟩
  unfold Img.find
  rcases unhide HK with ⟨e1, e2⟩ | ⟨k, hk4, e1, e2, e3⟩
  · rw [e1]
    have KN := hide e2
    clear e1 e2 HK
    go_wp2_with fail
    go_loopw [8] (fun i wr => ∃ s : Nat, s ≤ 4 ∧ i = .int .i64 s ∧ Uno w wr w.heap.size cs) (fun i _ => 4 - (intOf i).toNat)
    case atStart => exact ⟨0, by omega, rfl, unhide U2⟩
    case round =>
      clear U2 hbel hn
      obtain ⟨s, hs, rfl, hu⟩ := hrel
      have U4 := hide hu
      clear hu
      by_cases hls : s < 4
      · have hcell := ((unhide U4).has hk).name d s hd hls
        cases gq : ((imgOf cs).name d s).toList == nm.toList
        · by_cases hE : ((imgOf cs).name d s).toList.isEmpty = true
          · go_wp2_with fail
            go_roundw
            case rel => exact ⟨s + 1, by omega, by go_num, unhide U4⟩
            case measure => simp [intOf]; omega
          · have hE2 : ((imgOf cs).name d s).toList.isEmpty = false := by simpa using hE
            clear hE
            go_wp2_with fail
            refine (check_any _ (imgOf cs) _ ((unhide U4).has hk)).mono ?_
            rintro e w5 ⟨rfl, hb5⟩
            have U5 := hide ((unhide U4).call hb5)
            clear hb5
            cases gc : (imgOf cs).check == 0
            · go_wp2_with fail
              go_roundw
              case rel => exact ⟨s + 1, by omega, by go_num, unhide U5⟩
              case measure => simp [intOf]; omega
            · have HF := hide (Img.find_self (m := imgOf cs) (by simpa using gc) hd hls (by simpa [Img.named] using hE2))
              go_wp2_with fail
              refine (find_in _ (imgOf cs) d hd _ hE2 _ ((unhide U5).has hk)).mono ?_
              rw [unhide HF]
              rintro e w6 ⟨rfl, rfl⟩
              go_wp2_with fail
              go_roundw
              case rel => exact ⟨s + 1, by omega, by go_num, unhide U5⟩
              case measure => simp [intOf]; omega
        · exact absurd gq (by rw [unhide KN s hls]; simp)
      · go_wp2_with fail
        go_ret
        exact ⟨rfl, (unhide U4).below⟩
  · rw [e1]
    have KN := hide e3
    clear e1 e3 HK
    go_wp2_with fail
    go_loopw [8] (fun i wr => ∃ s : Nat, s ≤ 4 ∧ i = .int .i64 s ∧ Uno w wr w.heap.size cs) (fun i _ => 4 - (intOf i).toNat)
    case atStart => exact ⟨0, by omega, rfl, unhide U2⟩
    case round =>
      clear U2 hbel hn
      obtain ⟨s, hs, rfl, hu⟩ := hrel
      have U4 := hide hu
      clear hu
      by_cases hls : s < 4
      · have hcell := ((unhide U4).has hk).name d s hd hls
        cases gq : ((imgOf cs).name d s).toList == nm.toList
        · by_cases hE : ((imgOf cs).name d s).toList.isEmpty = true
          · go_wp2_with fail
            go_roundw
            case rel => exact ⟨s + 1, by omega, by go_num, unhide U4⟩
            case measure => simp [intOf]; omega
          · have hE2 : ((imgOf cs).name d s).toList.isEmpty = false := by simpa using hE
            clear hE
            go_wp2_with fail
            refine (check_any _ (imgOf cs) _ ((unhide U4).has hk)).mono ?_
            rintro e w5 ⟨rfl, hb5⟩
            have U5 := hide ((unhide U4).call hb5)
            clear hb5
            cases gc : (imgOf cs).check == 0
            · go_wp2_with fail
              go_roundw
              case rel => exact ⟨s + 1, by omega, by go_num, unhide U5⟩
              case measure => simp [intOf]; omega
            · have HF := hide (Img.find_self (m := imgOf cs) (by simpa using gc) hd hls (by simpa [Img.named] using hE2))
              go_wp2_with fail
              refine (find_in _ (imgOf cs) d hd _ hE2 _ ((unhide U5).has hk)).mono ?_
              rw [unhide HF]
              rintro e w6 ⟨rfl, rfl⟩
              go_wp2_with fail
              go_roundw
              case rel => exact ⟨s + 1, by omega, by go_num, unhide U5⟩
              case measure => simp [intOf]; omega
        · have hks : k ≤ s := by
            rcases Nat.lt_or_ge s k with x | x
            · exact absurd gq (by rw [unhide KN s x]; simp)
            · exact x
          by_cases hE : ((imgOf cs).name d s).toList.isEmpty = true
          · go_wp2_with fail
            go_roundw
            case rel => exact ⟨s + 1, by omega, by go_num, unhide U4⟩
            case measure => simp [intOf]; omega
          · have hE2 : ((imgOf cs).name d s).toList.isEmpty = false := by simpa using hE
            clear hE
            go_wp2_with fail
            refine (check_any _ (imgOf cs) _ ((unhide U4).has hk)).mono ?_
            rintro e w5 ⟨rfl, hb5⟩
            have U5 := hide ((unhide U4).call hb5)
            clear hb5
            cases gc : (imgOf cs).check == 0
            · go_wp2_with fail
              go_roundw
              case rel => exact ⟨s + 1, by omega, by go_num, unhide U5⟩
              case measure => simp [intOf]; omega
            · have HF := hide (Img.find_self (m := imgOf cs) (by simpa using gc) hd hls (by simpa [Img.named] using hE2))
              go_wp2_with fail
              refine (find_in _ (imgOf cs) d hd _ hE2 _ ((unhide U5).has hk)).mono ?_
              rw [unhide HF]
              rintro e w6 ⟨rfl, rfl⟩
              go_wp2_with fail
              go_roundw
              case rel => exact ⟨s + 1, by omega, by go_num, unhide U5⟩
              case measure => simp [intOf]; omega
      · go_wp2_with fail
        go_ret
        exact ⟨rfl, (unhide U4).below⟩
end Go.Proofs.Ytlppidpfiomdeaa
