/-
  The walk of eiderdownlaw.fit.
-/
import Derived.Test.YtgipceeheohafaaUc
namespace Go.Proofs.Ytgipceeheohafaa
open Go.RowKit
set_option maxRecDepth 100000 in
set_option maxHeartbeats 8000000 in
theorem fit_any (b c : Nat) (m k : Img) (w : World) (hm : HasImg w b m) (hk : HasImg w c k) :
    Calls Try.prog 47 #[.pointer (some ⟨b, 0, none⟩), .pointer (some ⟨c, 0, none⟩)] w fun e w' => FitIs m k e ∧ Below w.heap.size w w' := by
  have hlb := hm.lt
  have hlc := hk.lt
  have HM := hide hm
  have HK := hide hk
  clear hm hk
  go_enter Try.func47, Try.ntmps47
  go_wp2_with fail
  go_loopw [5] (fun i wr => ∃ n : Nat, n ≤ 8 ∧ i = .int .i64 n ∧ Hid (Below w.heap.size w wr) ∧ Hid (∀ j, j < n → FitN m k j)) (fun i _ => 8 - (intOf i).toNat)
  case atStart => exact ⟨0, by omega, rfl, hide (Below.refl _ _), hide fun j hj => by omega⟩
  case round =>
    obtain ⟨n, hn, rfl, HB, HF⟩ := hrel
    by_cases hlt : n < 8
    · have t8 : decide ((n : Int) < 8) = true := by simp; omega
      have hM := (unhide HM).below (unhide HB) hlb
      have hK := (unhide HK).below (unhide HB) hlc
      have a0 := hM.live n hlt
      have a1 := hM.stamp n hlt
      have a2 := hM.links n hlt
      have a3 := hM.part n 0 hlt (by omega)
      have a4 := hM.part n 1 hlt (by omega)
      have c0 := hK.live n hlt
      have c1 := hK.stamp n hlt
      have c2 := hK.links n hlt
      have c3 := hK.part n 0 hlt (by omega)
      have c4 := hK.part n 1 hlt (by omega)
      have lb := hM.lt
      have lk := hK.lt
      clear hM hK
      have PA := hide (InoPair.ab (unhide HB) m k n)
      have PB := hide (InoPair.ba (unhide HB) m k n)
      unfold inoC at PA PB
      go_wp2_with fail
      go_cut [6, 7] (fun p q wx => ∃ g1 g2, p = .pointer (some ⟨g1, 0, none⟩) ∧ q = .pointer (some ⟨g2, 0, none⟩) ∧ Hid (InoPair w wx g1 g2 m k n))
      case first =>
        as_aux_lemma =>
          go_region
          all_goals
            go_wp2_with fail
            go_meet
            first
              | exact ⟨_, _, rfl, rfl, PA⟩
              | exact ⟨_, _, rfl, rfl, PB⟩
      case rest =>
        obtain ⟨g1, g2, rfl, rfl, HPa⟩ := hcut
        clear a0 a1 a2 a3 a4 c0 c1 c2 c3 c4 lb lk PA PB HB
        obtain ⟨v, hv⟩ : ∃ v : Bool, v = (m.live n && k.live n && !(m.stamp n == k.stamp n) && decide (0 < k.refs n)) := ⟨_, rfl⟩
        have HV := hide hv
        clear hv
        have i0 := (inoCells (unhide HPa).b1).live
        have i1 := (inoCells (unhide HPa).b1).stamp
        have j0 := (inoCells (unhide HPa).b2).live
        have j1 := (inoCells (unhide HPa).b2).stamp
        go_upto_region 5 with fail
        go_cut [53] (fun s wx => s = .bool v ∧ Hid (InoPair w wx g1 g2 m k n))
        case first =>
          as_aux_lemma =>
            cases h1 : m.live n
            · rw [h1] at i0
              go_wp2_with fail
              go_meet
              exact ⟨by rw [unhide HV, h1]; rfl, HPa⟩
            · rw [h1] at i0
              cases h2 : k.live n
              · rw [h2] at j0
                go_wp2_with fail
                go_meet
                exact ⟨by rw [unhide HV, h1, h2]; rfl, HPa⟩
              · rw [h2] at j0
                by_cases h3 : m.stamp n = k.stamp n
                · rw [← h3] at j1
                  have h4 : (m.stamp n == k.stamp n) = true := by simpa using h3
                  have H4 := hide h4
                  clear h3 h4
                  go_wp2_with fail
                  go_meet
                  exact ⟨by rw [unhide HV, h1, h2, unhide H4]; rfl, HPa⟩
                · have h4 : (m.stamp n == k.stamp n) = false := by simpa using h3
                  have CL := hide (rLeads_any c k (n : Int) _ ((unhide HK).below (unhide HPa).below hlc))
                  have hr := k.refs_le (n : Int)
                  go_wp2_with fail
                  refine (unhide CL).mono ?_
                  rintro e wz ⟨rfl, ez⟩
                  rw [ez]
                  clear ez wz CL
                  go_wp2_with fail
                  go_meet
                  exact ⟨by rw [unhide HV, h1, h2, h4]; simp [h3], HPa⟩
        case rest =>
          obtain ⟨rfl, HP⟩ := hcut
          clear i0 i1 j0 j1 HPa
          cases v
          case true =>
            go_wp2_with fail
            go_ret
            exact ⟨fitNo _ _, (unhide HP).below⟩
          have FA := hide (fitA (unhide HV))
          clear HV
          go_wp2_with fail
          go_loopw [8] (fun i wx => ∃ j : Nat, j ≤ 8 ∧ i = .int .i64 j ∧ Hid (InoPair w wx g1 g2 m k n) ∧ Hid (∀ t, t < j → FitB m k n t)) (fun i _ => 8 - (intOf i).toNat)
          case atStart => exact ⟨0, by omega, rfl, HP, hide fun t ht => by omega⟩
          case round =>
            as_aux_lemma =>
              clear HP
              obtain ⟨j, hj, rfl, HP, HB⟩ := hrel
              have i0 := (inoCells (unhide HP).b1).live
              have i1 := (inoCells (unhide HP).b1).stamp
              by_cases hlj : j < 8
              · have u8 : decide ((j : Int) < 8) = true := by simp; omega
                have hK := (unhide HK).below (unhide HP).below hlc
                have k0 := hK.live j hlj
                have k1 := hK.stamp j hlj
                have lk := hK.lt
                clear hK
                have NX := hide (fun (h : FitB m k n j) => all_succ (unhide HB) h)
                clear HB
                by_cases e : j = n
                · subst e
                  have W := hide (unhide NX (fun z => absurd rfl z))
                  go_wp2_with fail
                  try (go_quiet (fail); go_wp2_with fail)
                  go_roundw
                  case rel => exact ⟨j + 1, by omega, by go_num, by first | exact HP | exact (unhide HP).draw _, W⟩
                  case measure => simp [intOf]; omega
                · have e2 : ((j : Int) == (n : Int)) = false := by simp; omega
                  have e3 : (j == n) = false := by simpa using e
                  have e4 : ((j : Int) != (n : Int)) = true := by simp; omega
                  have e5 : decide ((j : Int) = (n : Int)) = false := by simp; omega
                  have e6 : ¬ ((j : Int) = (n : Int)) := by omega
                  cases h1 : m.live n
                  · rw [h1] at i0
                    have W := hide (unhide NX (fun _ z => by rw [h1] at z; cases z))
                    go_wp2_with fail
                    try (go_quiet (fail); go_wp2_with fail)
                    go_roundw
                    case rel => exact ⟨j + 1, by omega, by go_num, by first | exact HP | exact (unhide HP).draw _, W⟩
                    case measure => simp [intOf]; omega
                  · rw [h1] at i0
                    cases h2 : k.live j
                    · rw [h2] at k0
                      have W := hide (unhide NX (fun _ _ z => by rw [h2] at z; cases z))
                      go_wp2_with fail
                      try (go_quiet (fail); go_wp2_with fail)
                      go_roundw
                      case rel => exact ⟨j + 1, by omega, by go_num, by first | exact HP | exact (unhide HP).draw _, W⟩
                      case measure => simp [intOf]; omega
                    · rw [h2] at k0
                      cases h3 : (k.stamp j == m.stamp n)
                      · have W := hide (unhide NX (fun _ _ _ => by simpa using h3))
                        go_wp2_with fail
                        try (go_quiet (fail); go_wp2_with fail)
                        go_roundw
                        case rel => exact ⟨j + 1, by omega, by go_num, by first | exact HP | exact (unhide HP).draw _, W⟩
                        case measure => simp [intOf]; omega
                      · go_wp2_with fail
                        try (go_quiet (fail); go_wp2_with fail)
                        go_ret
                        exact ⟨fitNo _ _, by first | exact (unhide HP).below | exact belowN (unhide HP).below⟩
              · have ej : j = 8 := by omega
                subst ej
                have FB := HB
                clear HB
                go_wp2_with fail
                clear i0 i1
                go_loopw [9] (fun i wx => ∃ p : Nat, p ≤ 2 ∧ i = .int .i64 p ∧ Hid (InoPair w wx g1 g2 m k n) ∧ Hid (∀ q, q < p → ∀ t, t < 8 → ∀ r, r < 2 → FitC m k n q t r)) (fun i _ => 2 - (intOf i).toNat)
                case atStart => exact ⟨0, by omega, rfl, HP, hide fun t ht => by omega⟩
                case round =>
                  clear HP
                  obtain ⟨p, hp, rfl, HP, HC⟩ := hrel
                  have i0 := (inoCells (unhide HP).b1).live
                  by_cases hlp : p < 2
                  · have v2 : decide ((p : Int) < 2) = true := by simp; omega
                    have ip := (inoCells (unhide HP).b1).part p hlp
                    have NX := hide (fun (h : ∀ t, t < 8 → ∀ r, r < 2 → FitC m k n p t r) => all_succ (unhide HC) h)
                    clear HC
                    cases h1 : m.live n
                    · rw [h1] at i0
                      have W := hide (unhide NX (fun _ _ _ _ z => by rw [h1] at z; cases z))
                      go_wp2_with fail
                      try (go_quiet (fail); go_wp2_with fail)
                      go_roundw
                      case rel => exact ⟨p + 1, by omega, by go_num, by first | exact HP | exact (unhide HP).draw _, W⟩
                      case measure => simp [intOf]; omega
                    · rw [h1] at i0
                      by_cases hneg : m.part n p < 0
                      · have d1 : decide (m.part n p < 0) = true := by simpa using hneg
                        have W := hide (unhide NX (fun _ _ _ _ _ z => absurd hneg (by omega)))
                        clear hneg
                        go_wp2_with fail
                        try (go_quiet (fail); go_wp2_with fail)
                        go_roundw
                        case rel => exact ⟨p + 1, by omega, by go_num, by first | exact HP | exact (unhide HP).draw _, W⟩
                        case measure => simp [intOf]; omega
                      · have d1 : decide (m.part n p < 0) = false := by simp; omega
                        clear hneg
                        have PF := hide (fun (q : Nat) (X : World) (h : InoPair w X g1 g2 m k n) (hq : q < 2) => (inoCells h.b1).part q hq)
                        clear PF
                        go_wp2_with fail
                        go_loopw [11] (fun i wx => ∃ j : Nat, j ≤ 8 ∧ i = .int .i64 j ∧ Hid (InoPair w wx g1 g2 m k n) ∧ Hid (∀ t, t < j → ∀ r, r < 2 → FitC m k n p t r)) (fun i _ => 8 - (intOf i).toNat)
                        case atStart => exact ⟨0, by omega, rfl, HP, hide fun t ht => by omega⟩
                        case round =>
                          clear HP i0 ip
                          obtain ⟨j, hj, rfl, HP, HD⟩ := hrel
                          by_cases hlj : j < 8
                          · have v8 : decide ((j : Int) < 8) = true := by simp; omega
                            have NY := hide (fun (h : ∀ r, r < 2 → FitC m k n p j r) => all_succ (unhide HD) h)
                            clear HD
                            go_wp2_with fail
                            go_loopw [12] (fun i wx => ∃ q : Nat, q ≤ 2 ∧ i = .int .i64 q ∧ Hid (InoPair w wx g1 g2 m k n) ∧ Hid (∀ t, t < q → FitC m k n p j t)) (fun i _ => 2 - (intOf i).toNat)
                            case atStart => exact ⟨0, by omega, rfl, HP, hide fun t ht => by omega⟩
                            case round =>
                              as_aux_lemma =>
                                clear HP
                                obtain ⟨q, hq, rfl, HP, HE⟩ := hrel
                                by_cases hlq : q < 2
                                · have x2 : decide ((q : Int) < 2) = true := by simp; omega
                                  have i1 := (inoCells (unhide HP).b1).stamp
                                  have hK := (unhide HK).below (unhide HP).below hlc
                                  have k0 := hK.live j hlj
                                  have k1 := hK.stamp j hlj
                                  have k2 := hK.part j q hlj hlq
                                  have lk := hK.lt
                                  clear hK
                                  have NZ := hide (fun (h : FitC m k n p j q) => all_succ (unhide HE) h)
                                  clear HE
                                  cases h2 : k.live j
                                  · rw [h2] at k0
                                    have W := hide (unhide NZ (fun _ _ z => by rw [h2] at z; cases z))
                                    go_wp2_with fail
                                    try (go_quiet (fail); go_wp2_with fail)
                                    go_roundw
                                    case rel => exact ⟨q + 1, by omega, by go_num, by first | exact HP | exact (unhide HP).draw _, W⟩
                                    case measure => simp [intOf]; omega
                                  · rw [h2] at k0
                                    cases h3 : (k.part j q == m.part n p)
                                    · have W := hide (unhide NZ (fun _ _ _ z => by rw [z] at h3; simp at h3))
                                      go_wp2_with fail
                                      try (go_quiet (fail); go_wp2_with fail)
                                      go_roundw
                                      case rel => exact ⟨q + 1, by omega, by go_num, by first | exact HP | exact (unhide HP).draw _, W⟩
                                      case measure => simp [intOf]; omega
                                    · by_cases e : j = n
                                      · by_cases f : q = p
                                        · cases h4 : (k.stamp j == m.stamp n)
                                          · have h5 : ¬ k.stamp j = m.stamp n := by simpa using h4
                                            have h6 : (k.stamp j != m.stamp n) = true := by simpa using h4
                                            subst e f
                                            go_wp2_with fail
                                            try (go_quiet (fail); go_wp2_with fail)
                                            go_ret
                                            exact ⟨fitNo _ _, by first | exact (unhide HP).below | exact belowN (unhide HP).below⟩
                                          · have h5 : k.stamp j = m.stamp n := by simpa using h4
                                            have W := hide (unhide NZ (fun _ _ _ _ => ⟨e, f, h5⟩))
                                            have h6 : (k.stamp j != m.stamp n) = false := by simpa using h4
                                            clear h5
                                            subst e f
                                            go_wp2_with fail
                                            try (go_quiet (fail); go_wp2_with fail)
                                            go_roundw
                                            case rel => exact ⟨q + 1, by omega, by go_num, by first | exact HP | exact (unhide HP).draw _, W⟩
                                            case measure => simp [intOf]; omega
                                        · have f2 : ((q : Int) == (p : Int)) = false := by simp; omega
                                          have f3 : (q == p) = false := by simpa using f
                                          have f4 : ((q : Int) != (p : Int)) = true := by simp; omega
                                          have f5 : decide ((q : Int) = (p : Int)) = false := by simp; omega
                                          have f6 : ¬ ((q : Int) = (p : Int)) := by omega
                                          subst e
                                          go_wp2_with fail
                                          try (go_quiet (fail); go_wp2_with fail)
                                          go_ret
                                          exact ⟨fitNo _ _, by first | exact (unhide HP).below | exact belowN (unhide HP).below⟩
                                      · have e2 : ((j : Int) == (n : Int)) = false := by simp; omega
                                        have e3 : (j == n) = false := by simpa using e
                                        have e4 : ((j : Int) != (n : Int)) = true := by simp; omega
                                        have e5 : decide ((j : Int) = (n : Int)) = false := by simp; omega
                                        have e6 : ¬ ((j : Int) = (n : Int)) := by omega
                                        go_wp2_with fail
                                        try (go_quiet (fail); go_wp2_with fail)
                                        go_ret
                                        exact ⟨fitNo _ _, by first | exact (unhide HP).below | exact belowN (unhide HP).below⟩
                                · have x2 : decide ((q : Int) < 2) = false := by simp; omega
                                  have eq : q = 2 := by omega
                                  subst eq
                                  have W := hide (unhide NY (unhide HE))
                                  go_wp2_with fail
                                  go_roundw
                                  case rel => exact ⟨j + 1, by omega, by go_num, HP, W⟩
                                  case measure => simp [intOf]; omega
                          · have v8 : decide ((j : Int) < 8) = false := by simp; omega
                            have ej : j = 8 := by omega
                            subst ej
                            have W := hide (unhide NX (unhide HD))
                            go_wp2_with fail
                            go_roundw
                            case rel => exact ⟨p + 1, by omega, by go_num, HP, W⟩
                            case measure => simp [intOf]; omega
                  · have v2 : decide ((p : Int) < 2) = false := by simp; omega
                    have ep : p = 2 := by omega
                    subst ep
                    have W := hide (all_succ (p := FitN m k) (unhide HF) ⟨unhide FA, unhide FB, unhide HC⟩)
                    go_wp2_with fail
                    go_roundw
                    case rel => exact ⟨n + 1, by omega, by go_num, hide (unhide HP).below, W⟩
                    case measure => simp [intOf]; omega
    · have t8 : decide ((n : Int) < 8) = false := by simp; omega
      have en : n = 8 := by omega
      subst en
      have FN := HF
      clear HF
      go_wp2_with fail
      go_loopw [13] (fun i wx => ∃ x : Nat, x ≤ 9 ∧ i = .int .i64 x ∧ Hid (Below w.heap.size w wx) ∧ Hid (∀ j, j < x → FitX m k j)) (fun i _ => 9 - (intOf i).toNat)
      case atStart => exact ⟨0, by omega, rfl, HB, hide fun t ht => by omega⟩
      case round =>
        as_aux_lemma =>
          clear HB
          obtain ⟨x, hx, rfl, HB, HX⟩ := hrel
          by_cases hlx : x < 9
          · have x9 : decide ((x : Int) < 9) = true := by simp; omega
            have hM := (unhide HM).below (unhide HB) hlb
            have hK := (unhide HK).below (unhide HB) hlc
            have lb := hM.lt
            have lk := hK.lt
            have a1 := hM.of x hlx
            have a2 := hK.of x hlx
            have CH := hide (fun (q : Nat) => rHeld_any c k (x : Int) _ ((unhide HK).below (belowN (n := q) (unhide HB)) hlc).at)
            clear hM hK
            have NX := hide (fun (h : FitX m k x) => all_succ (unhide HX) h)
            clear HX
            cases h1 : k.held (x : Int)
            · rw [h1] at CH
              have W := hide (unhide NX (fun z => by rw [h1] at z; cases z))
              go_wp2_with fail
              go_quiet ((go_at_call 75; exact Calls.quiet_of_same (unhide CH _)))
              go_wp2_with fail
              go_roundw
              case rel => exact ⟨x + 1, by omega, by go_num, by first | exact HB | exact hide (belowN (unhide HB)), W⟩
              case measure => simp [intOf]; omega
            · rw [h1] at CH
              by_cases h2 : m.of x = k.of x
              · have W := hide (unhide NX (fun _ => h2))
                rw [← h2] at a2
                clear h2
                go_wp2_with fail
                go_quiet ((go_at_call 75; exact Calls.quiet_of_same (unhide CH _)))
                go_wp2_with fail
                go_roundw
                case rel => exact ⟨x + 1, by omega, by go_num, by first | exact HB | exact hide (belowN (unhide HB)), W⟩
                case measure => simp [intOf]; omega
              · have h3 : (m.of x == k.of x) = false := by simpa using h2
                have h4 : (m.of x != k.of x) = true := by simpa using h2
                have h5 : decide (m.of x = k.of x) = false := by simpa using h2
                go_wp2_with fail
                go_quiet ((go_at_call 75; exact Calls.quiet_of_same (unhide CH _)))
                go_wp2_with fail
                go_ret
                exact ⟨fitNo _ _, by first | exact (unhide HB) | exact belowN (unhide HB)⟩
          · have x9 : decide ((x : Int) < 9) = false := by simp; omega
            have ex : x = 9 := by omega
            subst ex
            have FX := HX
            clear HX
            go_wp2_with fail
            go_loopw [14] (fun i wx => ∃ d : Nat, d ≤ 3 ∧ i = .int .i64 d ∧ Hid (Below w.heap.size w wx) ∧ Hid (∀ j, j < d → ∀ s, s < 4 → FitS m k j s)) (fun i _ => 3 - (intOf i).toNat)
            case atStart => exact ⟨0, by omega, rfl, HB, hide fun t ht => by omega⟩
            case round =>
              clear HB
              obtain ⟨d, hd, rfl, HB, HD⟩ := hrel
              by_cases hld : d < 3
              · have x3 : decide ((d : Int) < 3) = true := by simp; omega
                have ND := hide (fun (h : ∀ s, s < 4 → FitS m k d s) => all_succ (unhide HD) h)
                clear HD
                go_wp2_with fail
                go_loopw [15] (fun i wx => ∃ s : Nat, s ≤ 4 ∧ i = .int .i64 s ∧ Hid (Below w.heap.size w wx) ∧ Hid (∀ j, j < s → FitS m k d j)) (fun i _ => 4 - (intOf i).toNat)
                case atStart => exact ⟨0, by omega, rfl, HB, hide fun t ht => by omega⟩
                case round =>
                  clear HB
                  obtain ⟨s, hs, rfl, HB, HS⟩ := hrel
                  by_cases hls : s < 4
                  · have x4 : decide ((s : Int) < 4) = true := by simp; omega
                    have NS := hide (fun (h : FitS m k d s) => all_succ (unhide HS) h)
                    clear HS
                    have hM := (unhide HM).below (unhide HB) hlb
                    have hK := (unhide HK).below (unhide HB) hlc
                    have lb := hM.lt
                    have lk := hK.lt
                    have n1 := hM.name d s hld hls
                    have i1 := hM.ino d s hld hls
                    have s1 := hM.est d s hld hls
                    have n2 := hK.name d s hld hls
                    have i2 := hK.ino d s hld hls
                    have s2 := hK.est d s hld hls
                    clear hM hK
                    have PA := hide (EntPair.ab (unhide HB) m k d s)
                    have PB := hide (EntPair.ba (unhide HB) m k d s)
                    go_wp2_with fail
                    go_cut [16, 17] (fun p q wx => ∃ g1 g2, p = .pointer (some ⟨g1, 0, none⟩) ∧ q = .pointer (some ⟨g2, 0, none⟩) ∧ Hid (EntPair w wx g1 g2 m k d s))
                    case first =>
                      as_aux_lemma =>
                        go_region
                        all_goals
                          go_wp2_with fail
                          go_meet
                          first
                            | exact ⟨_, _, rfl, rfl, PA⟩
                            | exact ⟨_, _, rfl, rfl, PB⟩
                    case rest =>
                      obtain ⟨g1, g2, rfl, rfl, HPa⟩ := hcut
                      clear n1 i1 s1 n2 i2 s2 lb lk PA PB HB
                      obtain ⟨c10, c11, c12⟩ := entCells (unhide HPa).b1
                      obtain ⟨c20, c21, c22⟩ := entCells (unhide HPa).b2
                      obtain ⟨v, hv⟩ : ∃ v : Bool, v = (m.named d s && k.named d s && !Img.sameEnt m k d s) := ⟨_, rfl⟩
                      have HV := hide hv
                      clear hv
                      have q1 := neqEnt (m.name d s) (m.ino d s) (m.est d s) (k.name d s) (k.ino d s) (k.est d s)
                      have E1 := hide (show m.named d s = !(m.name d s).toList.isEmpty from rfl)
                      have E2 := hide (show k.named d s = !(k.name d s).toList.isEmpty from rfl)
                      go_upto_region 37 with fail
                      go_cut [211] (fun s5 wx => s5 = .bool v ∧ Hid (EntPair w wx g1 g2 m k d s))
                      case first =>
                        as_aux_lemma =>
                          cases h1 : (m.name d s).toList.isEmpty
                          · cases h2 : (k.name d s).toList.isEmpty
                            · cases h3 : Img.sameEnt m k d s
                              all_goals
                                rw [show ((m.name d s).toList == (k.name d s).toList && m.ino d s == k.ino d s && m.est d s == k.est d s) = _ from h3] at q1
                                go_wp2_with fail
                                go_meet
                                exact ⟨by rw [unhide HV, unhide E1, unhide E2, h1, h2, h3]; rfl, HPa⟩
                            · go_wp2_with fail
                              go_meet
                              exact ⟨by rw [unhide HV, unhide E1, unhide E2, h1, h2]; rfl, HPa⟩
                          · go_wp2_with fail
                            go_meet
                            exact ⟨by rw [unhide HV, unhide E1, h1]; rfl, HPa⟩
                      case rest =>
                        obtain ⟨rfl, HP⟩ := hcut
                        clear c10 c11 c12 c20 c21 c22 HPa q1
                        cases v
                        case true =>
                          go_wp2_with fail
                          go_ret
                          exact ⟨fitNo _ _, (unhide HP).below⟩
                        have FS := hide (fitS (unhide HV))
                        clear HV
                        go_wp2_with fail
                        go_loopw [18] (fun i wx => ∃ t : Nat, t ≤ 4 ∧ i = .int .i64 t ∧ Hid (EntPair w wx g1 g2 m k d s) ∧ Hid (∀ j, j < t → FitT m k d s j)) (fun i _ => 4 - (intOf i).toNat)
                        case atStart => exact ⟨0, by omega, rfl, HP, hide fun t ht => by omega⟩
                        case round =>
                          as_aux_lemma =>
                            clear HP
                            obtain ⟨t, ht, rfl, HP, HT⟩ := hrel
                            by_cases hlt : t < 4
                            · have y4 : decide ((t : Int) < 4) = true := by simp; omega
                              have NT := hide (fun (h : FitT m k d s t) => all_succ (unhide HT) h)
                              clear HT
                              have c10 := (entCells (unhide HP).b1).1
                              have hK := (unhide HK).below (unhide HP).below hlc
                              have lk := hK.lt
                              have n2 := hK.name d t hld hlt
                              clear hK
                              by_cases e : t = s
                              · have W := hide (unhide NT (fun z => absurd e z))
                                subst e
                                go_wp2_with fail
                                try (go_quiet (fail); go_wp2_with fail)
                                go_roundw
                                case rel => exact ⟨t + 1, by omega, by go_num, by first | exact HP | exact (unhide HP).draw _, W⟩
                                case measure => simp [intOf]; omega
                              · have e2 : ((t : Int) == (s : Int)) = false := by simp; omega
                                have e3 : (t == s) = false := by simpa using e
                                have e4 : ((t : Int) != (s : Int)) = true := by simp; omega
                                have e5 : decide ((t : Int) = (s : Int)) = false := by simp; omega
                                have e6 : ¬ ((t : Int) = (s : Int)) := by omega
                                cases h1 : (m.name d s).toList.isEmpty
                                · cases h2 : ((k.name d t).toList == (m.name d s).toList)
                                  · have W := hide (unhide NT (fun _ _ => by simpa using h2))
                                    go_wp2_with fail
                                    try (go_quiet (fail); go_wp2_with fail)
                                    go_roundw
                                    case rel => exact ⟨t + 1, by omega, by go_num, by first | exact HP | exact (unhide HP).draw _, W⟩
                                    case measure => simp [intOf]; omega
                                  · go_wp2_with fail
                                    try (go_quiet (fail); go_wp2_with fail)
                                    go_ret
                                    exact ⟨fitNo _ _, by first | exact (unhide HP).below | exact belowN (unhide HP).below⟩
                                · have W := hide (unhide NT (fun _ z => by unfold Img.named at z; rw [h1] at z; cases z))
                                  go_wp2_with fail
                                  try (go_quiet (fail); go_wp2_with fail)
                                  go_roundw
                                  case rel => exact ⟨t + 1, by omega, by go_num, by first | exact HP | exact (unhide HP).draw _, W⟩
                                  case measure => simp [intOf]; omega
                            · have y4 : decide ((t : Int) < 4) = false := by simp; omega
                              have et : t = 4 := by omega
                              subst et
                              have W := hide (unhide NS ⟨unhide FS, fun t ht => unhide HT t ht⟩)
                              go_wp2_with fail
                              go_roundw
                              case rel => exact ⟨s + 1, by omega, by go_num, hide (unhide HP).below, W⟩
                              case measure => simp [intOf]; omega
                  · have x4 : decide ((s : Int) < 4) = false := by simp; omega
                    have es : s = 4 := by omega
                    subst es
                    have W := hide (unhide ND (unhide HS))
                    go_wp2_with fail
                    go_roundw
                    case rel => exact ⟨d + 1, by omega, by go_num, HB, W⟩
                    case measure => simp [intOf]; omega
              · have x3 : decide ((d : Int) < 3) = false := by simp; omega
                have ed : d = 3 := by omega
                subst ed
                go_wp2_with fail
                go_ret
                exact ⟨⟨true, rfl, fun _ => fit_of (unhide FN) (unhide FX) (unhide HD)⟩, unhide HB⟩
end Go.Proofs.Ytgipceeheohafaa
