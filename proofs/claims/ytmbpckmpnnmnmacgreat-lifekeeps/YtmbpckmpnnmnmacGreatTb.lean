/-
  The walks of safe.part, mayCome, mayGo.
-/
import Derived.Test.YtmbpckmpnnmnmacGreatTa
namespace Go.Proofs.YtmbpckmpnnmnmacGreat
open Go.RowKit
theorem drewNs {w : World} {a b : Nat} : (w.drewN a).drewN b = w.drewN (a + b) := drewNN w a b
theorem drewN3 {w : World} {a b c : Nat} : ((w.drewN a).drewN b).drewN c = w.drewN (a + (b + c)) := by rw [drewNN, drewNN]
theorem quiet_same2 {P : Program} {f : FuncId} {args : Array Value} {w : World} {a n : Nat} {v : Value}
    (h : Calls P f args (w.drewN (a + n)) fun e w' => e = .returned v ∧ w' = w.drewN (a + n)) : Calls P f args (w.drewN (a + n)) fun e w'' => e = .returned v ∧ ∃ m, w'' = w.drewN (a + m) :=
  h.mono fun _ _ ⟨he, hm⟩ => ⟨he, n, hm⟩
set_option maxHeartbeats 800000 in
theorem part_any (b c : Nat) (m k : Img) (n p : Nat) (hn : n < 8) (hp : p < 2) (w : World) (hm : HasImg w b m) (hk : HasImg w c k) :
    Calls Tryz.prog 141 #[.pointer (some ⟨b, 0, none⟩), .pointer (some ⟨c, 0, none⟩), .int .i64 n, .int .i64 p] w fun e w' => e = .returned (.int .i64 (Img.partAs m k n p)) ∧ ∃ q, w' = w.drewN q := by
  have hpa := hm.part n p hn hp
  have hst := hm.stamp n hn
  have hlk := hk.live n hn
  have hsk := hk.stamp n hn
  have hpk := hk.part n p hn hp
  cases h1 : Img.isD (m.part n p)
  · have E := hide (show Img.partAs m k n p = -1 by unfold Img.partAs; rw [if_pos h1])
    go_enter Tryz.func141, Tryz.ntmps141
    go_wp2
    go_quiet (fail)
    go_wp2_with (go_at_call 147; refine (sIsData_any _ _).mono ?_; rw [h1]; rintro e w' ⟨rfl, rfl⟩)
    go_ret
    exact ⟨ret_int (unhide E).symm, by first | exact ⟨_, rfl⟩ | exact ⟨_, drewNs⟩ | exact ⟨_, drewN3⟩⟩
  · have hb : 0 ≤ m.part n p ∧ m.part n p < 9 := by simpa [Img.isD] using h1
    obtain ⟨x, hx⟩ := Int.eq_ofNat_of_zero_le hb.1
    have hx9 : x < 9 := by omega
    have hof := hk.of x hx9
    clear hb
    rw [hx] at hpa h1
    have e0 : (m.part n p).toNat = x := by rw [hx]; exact Int.toNat_natCast x
    cases h2 : k.of x == m.stamp n
    · have h2' : k.of (m.part n p).toNat ≠ m.stamp n := by rw [e0]; simpa using h2
      cases h3 : k.live n
      · rw [h3] at hlk
        have E := hide (show Img.partAs m k n p = -1 by unfold Img.partAs; rw [if_neg (by rw [hx, h1]; simp), if_neg h2', if_neg (by rw [h3]; simp)])
        clear e0 h2' hx h3
        go_enter Tryz.func141, Tryz.ntmps141
        go_wp2
        go_quiet (fail)
        go_wp2_with (go_at_call 147; refine (sIsData_any _ _).mono ?_; rw [h1]; rintro e w' ⟨rfl, rfl⟩)
        go_quiet (fail)
        go_wp2
        go_quiet (fail)
        go_wp2
        go_ret
        exact ⟨ret_int (unhide E).symm, by first | exact ⟨_, rfl⟩ | exact ⟨_, drewNs⟩ | exact ⟨_, drewN3⟩⟩
      · rw [h3] at hlk
        cases h4 : k.stamp n == m.stamp n
        · have E := hide (show Img.partAs m k n p = -1 by unfold Img.partAs; rw [if_neg (by rw [hx, h1]; simp), if_neg h2', if_neg (fun z => by rw [z.2] at h4; simp at h4)])
          clear e0 h2' hx h3
          go_enter Tryz.func141, Tryz.ntmps141
          go_wp2
          go_quiet (fail)
          go_wp2_with (go_at_call 147; refine (sIsData_any _ _).mono ?_; rw [h1]; rintro e w' ⟨rfl, rfl⟩)
          go_quiet (fail)
          go_wp2
          go_quiet (fail)
          go_wp2
          go_ret
          exact ⟨ret_int (unhide E).symm, by first | exact ⟨_, rfl⟩ | exact ⟨_, drewNs⟩ | exact ⟨_, drewN3⟩⟩
        · have E := hide (show Img.partAs m k n p = k.part n p by unfold Img.partAs; rw [if_neg (by rw [hx, h1]; simp), if_neg h2', if_pos ⟨h3, by simpa using h4⟩])
          clear e0 h2' hx h3
          go_enter Tryz.func141, Tryz.ntmps141
          go_wp2
          go_quiet (fail)
          go_wp2_with (go_at_call 147; refine (sIsData_any _ _).mono ?_; rw [h1]; rintro e w' ⟨rfl, rfl⟩)
          go_quiet (fail)
          go_wp2
          go_quiet (fail)
          go_wp2
          go_ret
          exact ⟨ret_int (unhide E).symm, by first | exact ⟨_, rfl⟩ | exact ⟨_, drewNs⟩ | exact ⟨_, drewN3⟩⟩
    · have E := hide (show Img.partAs m k n p = x by unfold Img.partAs; rw [if_neg (by rw [hx, h1]; simp), if_pos (by rw [e0]; simpa using h2), hx])
      clear e0 hx
      go_enter Tryz.func141, Tryz.ntmps141
      go_wp2
      go_quiet (fail)
      go_wp2_with (go_at_call 147; refine (sIsData_any _ _).mono ?_; rw [h1]; rintro e w' ⟨rfl, rfl⟩)
      go_quiet (fail)
      go_wp2
      go_ret
      exact ⟨ret_int (unhide E).symm, by first | exact ⟨_, rfl⟩ | exact ⟨_, drewNs⟩ | exact ⟨_, drewN3⟩⟩
set_option maxHeartbeats 800000 in
theorem mayGo_any (b c : Nat) (m k : Img) (ino : Int) (w : World) (hm : HasImg w b m) (hk : HasImg w c k) :
    Calls Tryz.prog 143 #[.pointer (some ⟨b, 0, none⟩), .pointer (some ⟨c, 0, none⟩), .int .i64 ino] w fun e w' => e = .returned (.bool (Img.mayGo m k ino)) ∧ w' = w := by
  have hr := k.refs_le ino
  have hr2 := m.refs_le ino
  by_cases h1 : 1 < k.refs ino
  · have E := hide (show Img.mayGo m k ino = true by unfold Img.mayGo; rw [decide_eq_true h1]; rfl)
    go_enter Tryz.func143, Tryz.ntmps143
    go_wp2_with fail
    refine (refs_any c k _ _ hk).mono ?_
    rintro e w1 ⟨rfl, e1⟩
    rw [e1]
    clear e1 w1
    go_wp2_with fail
    go_ret
    exact ⟨ret_bool (unhide E).symm, rfl⟩
  · have h1b : decide (1 < ((k.refs ino : Nat) : Int)) = false := by simp; omega
    by_cases h2 : m.refs ino = 0
    · have E := hide (show Img.mayGo m k ino = true by unfold Img.mayGo; rw [decide_eq_true h2, Bool.or_true])
      have h2b : (((m.refs ino : Nat) : Int) == 0) = true := by rw [h2]; rfl
      clear h2
      go_enter Tryz.func143, Tryz.ntmps143
      go_wp2_with fail
      refine (refs_any c k _ _ hk).mono ?_
      rintro e w1 ⟨rfl, e1⟩
      rw [e1]
      clear e1 w1
      go_wp2_with fail
      refine (refs_any b m _ _ hm).mono ?_
      rintro e w1 ⟨rfl, e1⟩
      rw [e1]
      clear e1 w1
      go_wp2_with fail
      go_ret
      exact ⟨ret_bool (unhide E).symm, rfl⟩
    · have E := hide (show Img.mayGo m k ino = false by unfold Img.mayGo; rw [decide_eq_false h2, decide_eq_false h1]; rfl)
      have h2b : (((m.refs ino : Nat) : Int) == 0) = false := by simp; omega
      clear h2
      go_enter Tryz.func143, Tryz.ntmps143
      go_wp2_with fail
      refine (refs_any c k _ _ hk).mono ?_
      rintro e w1 ⟨rfl, e1⟩
      rw [e1]
      clear e1 w1
      go_wp2_with fail
      refine (refs_any b m _ _ hm).mono ?_
      rintro e w1 ⟨rfl, e1⟩
      rw [e1]
      clear e1 w1
      go_wp2_with fail
      go_ret
      exact ⟨ret_bool (unhide E).symm, rfl⟩
set_option maxHeartbeats 800000 in
theorem mayCome_any (b c o : Nat) (k : Img) (ino est : Int) (w : World) (hk : HasImg w c k) (hi : w.cell? ⟨b, o + 1, none⟩ = some (.int .i64 ino)) (he : w.cell? ⟨b, o + 2, none⟩ = some (.int .i64 est)) :
    Calls Tryz.prog 142 #[.pointer (some ⟨c, 0, none⟩), .pointer (some ⟨b, o, none⟩)] w fun e w' => e = .returned (.bool (Img.mayCome k ino est)) ∧ ∃ q, w' = w.drewN q := by
  cases h1 : Img.isI ino
  · have E := hide (show Img.mayCome k ino est = false by unfold Img.mayCome; rw [h1]; rfl)
    go_enter Tryz.func142, Tryz.ntmps142
    go_wp2_with (go_at_call 139; refine (sIsInode_any _ _).mono ?_; rw [h1]; rintro e w' ⟨rfl, rfl⟩)
    go_ret
    exact ⟨ret_bool (unhide E).symm, by first | exact ⟨0, rfl⟩ | exact ⟨_, rfl⟩ | exact ⟨_, drewNs⟩ | exact ⟨_, drewN3⟩⟩
  · have hb : 0 ≤ ino ∧ ino < 8 := by simpa [Img.isI] using h1
    obtain ⟨n, rfl⟩ := Int.eq_ofNat_of_zero_le hb.1
    have hn : n < 8 := by omega
    clear hb
    have hr := k.refs_le (n : Int)
    have hlk := hk.live n hn
    have hst := hk.stamp n hn
    have hln := hk.links n hn
    cases h2 : k.live n
    · rw [h2] at hlk
      have E := hide (show Img.mayCome k (n : Int) est = false by unfold Img.mayCome; rw [Int.toNat_natCast, h2]; simp)
      clear h2
      go_enter Tryz.func142, Tryz.ntmps142
      go_wp2_with (go_at_call 139; refine (sIsInode_any _ _).mono ?_; rw [h1]; rintro e w' ⟨rfl, rfl⟩)
      go_quiet (fail)
      go_wp2
      go_quiet (fail)
      go_wp2
      go_ret
      exact ⟨ret_bool (unhide E).symm, by first | exact ⟨0, rfl⟩ | exact ⟨_, rfl⟩ | exact ⟨_, drewNs⟩ | exact ⟨_, drewN3⟩⟩
    · rw [h2] at hlk
      cases h3 : k.stamp n == est
      · have E := hide (show Img.mayCome k (n : Int) est = false by unfold Img.mayCome; rw [Int.toNat_natCast, h3]; simp)
        clear h2
        go_enter Tryz.func142, Tryz.ntmps142
        go_wp2_with (go_at_call 139; refine (sIsInode_any _ _).mono ?_; rw [h1]; rintro e w' ⟨rfl, rfl⟩)
        go_quiet (fail)
        go_wp2
        go_quiet (fail)
        go_wp2
        go_ret
        exact ⟨ret_bool (unhide E).symm, by first | exact ⟨0, rfl⟩ | exact ⟨_, rfl⟩ | exact ⟨_, drewNs⟩ | exact ⟨_, drewN3⟩⟩
      · have E := hide (show Img.mayCome k (n : Int) est = decide ((k.refs n : Int) < k.links n) by unfold Img.mayCome; rw [Int.toNat_natCast, h1, h2, h3]; simp)
        clear h2
        go_enter Tryz.func142, Tryz.ntmps142
        go_wp2_with (go_at_call 139; refine (sIsInode_any _ _).mono ?_; rw [h1]; rintro e w' ⟨rfl, rfl⟩)
        go_quiet (fail)
        go_wp2
        go_quiet ((go_at_call 26; exact quiet_same2 (refs_any _ k _ _ (hk.below (belowN (Below.refl _ _)) hk.lt))))
        go_wp2
        all_goals
          go_ret
          exact ⟨ret_bool (unhide E).symm, by first | exact ⟨0, rfl⟩ | exact ⟨_, rfl⟩ | exact ⟨_, drewNs⟩ | exact ⟨_, drewN3⟩⟩
end Go.Proofs.YtmbpckmpnnmnmacGreat
