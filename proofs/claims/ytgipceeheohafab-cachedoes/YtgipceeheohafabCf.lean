/-
  The walks of package cache: Sync, first, Inode, Slot, Data.
-/
import Derived.Test.YtgipceeheohafabCe
import Derived.Shelf.Abstract
import Derived.BigQuiet
namespace Go.Proofs.Ytgipceeheohafab
open Go.RowKit
set_option maxRecDepth 100000 in
set_option maxHeartbeats 2000000 in
theorem cSync_any (g : Nat) (cs ds : Array Value) (m k : Img) (hi : IsImg cs m) (hj : IsImg ds k) (w : World) (hg : w.heap[g]? = some (.cells (cs ++ ds) 51)) :
    Calls Try.prog 30 #[.pointer (some ⟨g, 0, none⟩)] w fun e w' => ∃ es, e = .returned (.int .i64 ((Img.syn m 8 k).1 : Nat)) ∧ IsImg es (Img.syn m 8 k).2 ∧ Mut w w' g (cs ++ es) 51 := by
  have hgl : g < w.heap.size := (Array.getElem?_eq_some_iff.1 hg).1
  obtain ⟨R, hR⟩ : ∃ R, R = Img.syn m 8 k := ⟨_, rfl⟩
  rw [← hR]
  go_enter Try.func30, Try.ntmps30
  go_wp2_with fail
  go_loopw [3] (fun i wr => ∃ (r : Nat) (es : Array Value) (K : Img), r ≤ 8 ∧ i = .int .i64 r ∧ Hid (IsImg es K) ∧ Hid (Mut w wr g (cs ++ es) 51) ∧ Hid (R.1 = (Img.syn m (8 - r) K).1 + r ∧ R.2 = (Img.syn m (8 - r) K).2)) (fun i _ => 8 - (intOf i).toNat)
  case atStart => exact ⟨0, ds, k, by omega, rfl, hide hj, hide (Mut.refl' (Below.refl _ _) hgl hg), hide ⟨by rw [hR]; rfl, by rw [hR]⟩⟩
  case round =>
    obtain ⟨r, es, K, hr, rfl, HI, HM, HR⟩ := hrel
    by_cases hlt : r < 8
    · have t8 : decide ((r : Int) < 8) = true := by simp; omega
      go_wp2_with fail
      refine (clean_any g cs es m K hi (unhide HI) _ (unhide HM).row).mono ?_
      rintro e w1 ⟨rfl, hb1⟩
      have HM1 := hide ((unhide HM).call hgl hb1)
      clear HM hb1
      cases hc : Img.sameImg m K
      · go_wp2_with fail
        go_loopw [4] (fun i wr => ∃ (j : Int) (c : Nat) (fs : Array Value) (D : Img), c ≤ 14 ∧ j = (c : Int) - 1 ∧ i = .int .i64 j ∧ Hid (IsImg fs D) ∧ Hid (Mut w wr g (cs ++ fs) 51) ∧ Hid (Img.down m D c = Img.down m K 14)) (fun i _ => (intOf i + 1).toNat)
        case atStart => exact ⟨13, 14, es, K, by omega, by omega, rfl, HI, HM1, hide rfl⟩
        case round =>
          obtain ⟨j, c, fs, D, hc14, hjc, rfl, HI2, HM2, HD⟩ := hrel
          cases c with
          | zero =>
            have tg : decide (j ≥ 0) = false := by simp; omega
            have tg2 : decide (0 ≤ j) = false := by simp; omega
            clear hjc
            have HR2 := hide (show R.1 = (Img.syn m (8 - (r + 1)) D).1 + (r + 1) ∧ R.2 = (Img.syn m (8 - (r + 1)) D).2 from by
              have h1 := unhide HR
              rw [show 8 - r = (8 - (r + 1)) + 1 by omega, Img.syn_step hc] at h1
              have h2 : D = Img.down m K 14 := unhide HD
              rw [h2]
              exact ⟨by have := h1.1; simp at this; omega, h1.2⟩)
            go_wp2_with fail
            go_roundw
            case rel => exact ⟨r + 1, fs, D, by omega, by go_num, HI2, HM2, HR2⟩
            case measure => simp [intOf]; omega
          | succ c =>
            have tg : decide (j ≥ 0) = true := by simp; omega
            have tg2 : decide (0 ≤ j) = true := by simp; omega
            have hj0 : 0 ≤ j := by omega
            have hj13 : j ≤ 13 := by omega
            have HJ := hide (show j = (c : Int) by omega)
            clear hjc
            go_wp2_with fail
            refine (cWrite_any g cs fs m D hi (unhide HI2) j _ (unhide HM2).row).mono ?_
            rintro e w2 ⟨fs2, rfl, hI3, hM3⟩
            have HM3 := hide ((unhide HM2).trans hM3)
            have HI3 := hide hI3
            have HD3 := hide (show Img.down m (Img.write m D j) c = Img.down m K 14 from by rw [unhide HJ]; exact unhide HD)
            clear HM2 hM3 hI3 HI2 HD
            go_wp2_with fail
            go_roundw
            case rel => exact ⟨_, c, fs2, _, by omega, by have := unhide HJ; omega, rfl, HI3, HM3, HD3⟩
            case measure => simp [intOf]; omega
      · have HE := hide (show R.1 = r ∧ R.2 = K from by
          have h1 := unhide HR
          rw [Img.syn_stop hc] at h1
          exact ⟨by have := h1.1; simp at this; omega, h1.2⟩)
        go_wp2_with fail
        go_ret
        exact ⟨es, by rw [(unhide HE).1]; rfl, by rw [(unhide HE).2]; exact unhide HI, unhide HM1⟩
    · have t8 : decide ((r : Int) < 8) = false := by simp; omega
      have er : r = 8 := by omega
      subst er
      have HE := hide (show R.1 = 8 ∧ R.2 = K from by
        have h1 := unhide HR
        exact ⟨by have := h1.1; simp [Img.syn] at this; omega, h1.2⟩)
      go_wp2_with fail
      go_ret
      exact ⟨es, by rw [(unhide HE).1]; rfl, by rw [(unhide HE).2]; exact unhide HI, unhide HM⟩
set_option maxHeartbeats 1000000 in
theorem first_any (f : FuncId) (cb : Array Value) (n : Nat) (p : Nat → Bool) (w : World) (eg : ∀ args w, (callFunc f args).run Try.prog w = .ok (.enter f args) w) (hn : n ≤ 16)
    (hf : ∀ (q i : Nat), i < n → Calls Try.prog f (#[.int .i64 i] ++ cb) (w.drewN q) fun e w' => e = .returned (.bool (p i)) ∧ ∃ r, w' = w.drewN r) :
    Calls Try.prog 47 #[.int .i64 n, .func (.func f) #[] cb] w fun e w' => e = .returned (.int .i64 (Img.firstI p n)) ∧ ∃ r, w' = w.drewN r := by
  have HF := hide hf
  clear hf
  go_enter Try.func47, Try.ntmps47
  go_wp2_with fail
  go_loopw [7] (fun i wr => ∃ k q : Nat, k ≤ n ∧ i = .int .i64 k ∧ Hid (∀ j, j < k → p j = false) ∧ wr = w.drewN q) (fun i _ => n - (intOf i).toNat)
  case atStart => exact ⟨0, 0, Nat.zero_le _, rfl, hide fun j hj => by omega, rfl⟩
  case round =>
    obtain ⟨k, q, hk, rfl, HP, rfl⟩ := hrel
    by_cases hlt : k < n
    · have tn : decide ((k : Int) < (n : Int)) = true := by simp; omega
      have hz : (k : Int) < (n : Int) := by omega
      have hc := unhide HF q k hlt
      cases hp : p k
      · rw [hp] at hc
        go_wp2_with (go_at_fn f; refine hc.mono ?_; rintro e w' ⟨rfl, nq, rfl⟩)
        go_roundw
        case rel => exact ⟨k + 1, nq, by omega, by go_num, hide fun j hj => by
          by_cases e : j = k
          · subst e; exact hp
          · exact unhide HP j (by omega), rfl⟩
        case measure => simp [intOf]; omega
      · rw [hp] at hc
        have HE := hide (Img.firstI_at hp (unhide HP) hlt)
        go_wp2_with (go_at_fn f; refine hc.mono ?_; rintro e w' ⟨rfl, nq, rfl⟩)
        go_ret
        exact ⟨by rw [unhide HE]; rfl, _, rfl⟩
    · have ek : k = n := by omega
      subst ek
      have HE := hide (Img.firstI_none (unhide HP))
      go_wp2_with fail
      go_ret
      exact ⟨by rw [unhide HE]; rfl, _, rfl⟩
end Go.Proofs.Ytgipceeheohafab
