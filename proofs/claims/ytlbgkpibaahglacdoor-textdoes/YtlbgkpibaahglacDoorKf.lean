/-
  The walk of text.Print.
-/
import Derived.Test.YtlbgkpibaahglacDoorKe
set_option linter.unusedVariables false
namespace Go.Proofs.YtlbgkpibaahglacDoor
open Go.RowKit
/-- numbers of 64 bits, texts that are not too long -/
structure Fine (m : Img) : Prop where
  stamp : ∀ n, n < 8 → I64 (m.stamp n)
  links : ∀ n, n < 8 → I64 (m.links n)
  part : ∀ n p, n < 8 → p < 2 → I64 (m.part n p)
  ino : ∀ d s, d < 3 → s < 4 → I64 (m.ino d s)
  est : ∀ d s, d < 3 → s < 4 → I64 (m.est d s)
  of : ∀ x, x < 9 → I64 (m.of x)
  name : ∀ d s, d < 3 → s < 4 → (m.name d s).size ≤ 100000
  text : ∀ x, x < 9 → (m.text x).size ≤ 100000
theorem ino_le {m : Img} (f : Fine m) {n : Nat} (hn : n < 8) : (Txt.line (Txt.inoW m n)).length ≤ 400000 := by
  have e1 := itoa_len (I64.nat (n := n) (by omega))
  have e2 := itoa_len (f.stamp n hn)
  have e3 := itoa_len (f.links n hn)
  have e4 := itoa_len (f.part n 0 hn (by omega))
  have e5 := itoa_len (f.part n 1 hn (by omega))
  simp only [Txt.inoW, Txt.line, Txt.tailW, List.length_append, List.length_cons, List.length_nil]
  omega
theorem ent_le {m : Img} (f : Fine m) {d s : Nat} (hd : d < 3) (hs : s < 4) : (Txt.line (Txt.entW m d s)).length ≤ 400000 := by
  have e1 := itoa_len (I64.nat (n := d) (by omega))
  have e2 := itoa_len (I64.nat (n := s) (by omega))
  have e3 := f.name d s hd hs
  have e4 := itoa_len (f.ino d s hd hs)
  have e5 := itoa_len (f.est d s hd hs)
  rw [← len_bytes] at e3
  simp only [Txt.entW, Txt.line, Txt.tailW, List.length_append, List.length_cons, List.length_nil]
  omega
theorem dat_le {m : Img} (f : Fine m) {x : Nat} (hx : x < 9) : (Txt.line (Txt.datW m x)).length ≤ 400000 := by
  have e1 := itoa_len (I64.nat (n := x) (by omega))
  have e3 := f.text x hx
  have e4 := itoa_len (f.of x hx)
  have e5 := (Txt.showR_len (m.text x).toList).2
  rw [← len_bytes] at e3
  simp only [Txt.datW, Txt.line, Txt.tailW, Txt.shows, List.length_append, List.length_cons, List.length_nil]
  omega
set_option maxHeartbeats 2000000 in
set_option maxRecDepth 100000 in
theorem Print_any (g : Nat) (m : Img) (w : World) (hm : HasImg w g m) (f : Fine m) (ht : Tab w) :
    Calls Tryd.prog 9 #[.pointer (some ⟨g, 0, none⟩)] w fun e w' => e = .returned (.string ⟨(Txt.printed m).toArray⟩) ∧ Below w.heap.size w w' := by
  have FR := hide (Wr.fresh w)
  have BF := hide (show Below w.heap.size w (w.alloc (.cells #[.pointer none, .slice none 0 0] 50)) from (Below.refl _ w).alloc (Nat.le_refl _) _)
  have FF := hide f
  have HM := hide hm
  have HT := hide ht
  have GL := hide hm.lt
  have TL := hide (tab_lt ht)
  clear hm ht f
  go_enter Tryd.func9, Tryd.ntmps9
  go_wp2_with fail
  generalize w.alloc (.cells #[.pointer none, .slice none 0 0] 50) = w1 at FR BF ⊢
  generalize hB : w.heap.size = B at FR BF GL TL ⊢
  have HB := hide hB
  clear hB
  go_loopw [8] (fun i wr => ∃ n : Nat, n ≤ 8 ∧ i = .int .i64 n ∧ Hid (Wr B B (Txt.stream (Txt.linesI m n)) wr) ∧ Hid (Below B w wr) ∧ Hid ((Txt.stream (Txt.linesI m n)).length ≤ 400000 * n)) (fun i _ => 8 - (intOf i).toNat)
  case atStart => exact ⟨0, Nat.zero_le _, rfl, FR, BF, hide (Nat.le_refl _)⟩
  case round =>
    clear FR BF
    obtain ⟨n, hn, rfl, HW, BW, LW⟩ := hrel
    have HI := hide ((unhide HM).below (unhide BW) (unhide GL))
    by_cases hlt : n < 8
    case pos =>
      have jn : (n : Int) < 8 := by omega
      have tn : decide ((n : Int) < 8) = true := by simp; omega
      have e0 := (unhide HI).live n hlt
      cases hl : m.live n <;> rw [hl] at e0
      case false =>
        have E := hide (Txt.linesI_no hl)
        clear hl HI
        go_wp2_with fail
        go_roundw
        case rel => exact ⟨n + 1, by omega, by go_num, by rw [unhide E]; exact HW, BW, hide (by have := unhide LW; rw [unhide E]; omega)⟩
        case measure => simp [intOf]; omega
      case true =>
        have E := hide (Txt.linesI_yes hl)
        have D := hide (inode_any n g (n * 5) (m.stamp n) (m.links n) (m.part n 0) (m.part n 1) (unhide HW) (tab_block (unhide HT) ((unhide BW).block 1 (unhide TL))) (Nat.le_of_lt (unhide HW).lt) (by omega) ((unhide FF).stamp n hlt) ((unhide FF).links n hlt) ((unhide FF).part n 0 hlt (by omega)) ((unhide FF).part n 1 hlt (by omega)) (unhide GL) ((unhide HI).stamp n hlt) ((unhide HI).links n hlt) ((unhide HI).part n 0 hlt (by omega)) ((unhide HI).part n 1 hlt (by omega)) (by have := unhide LW; omega))
        have LE := hide (ino_le (unhide FF) hlt)
        clear hl HI
        go_wp2_with fail
        refine (unhide D).mono ?_
        rintro e w2 ⟨rfl, h2, b2⟩
        have H2 := hide (show Wr B B (Txt.stream (Txt.linesI m (n + 1))) w2 by rw [unhide E]; exact h2)
        have B2 := hide (show Below B w w2 from (unhide BW).trans b2)
        have L2 := hide (show (Txt.stream (Txt.linesI m (n + 1))).length ≤ 400000 * (n + 1) by rw [unhide E, List.length_append]; have := unhide LW; have := unhide LE; omega)
        clear h2 b2 D E LE
        go_wp2_with fail
        go_roundw
        case rel => exact ⟨n + 1, by omega, by go_num, H2, B2, L2⟩
        case measure => simp [intOf]; omega
    case neg =>
      have e8 : n = 8 := by omega
      subst e8
      clear HI
      go_wp2_with fail
      go_loopw [26] (fun i wr => ∃ d : Nat, d ≤ 3 ∧ i = .int .i64 d ∧ Hid (Wr B B (Txt.stream (Txt.linesD m d)) wr) ∧ Hid (Below B w wr) ∧ Hid ((Txt.stream (Txt.linesD m d)).length ≤ 400000 * (8 + 4 * d))) (fun i _ => 3 - (intOf i).toNat)
      case atStart => exact ⟨0, Nat.zero_le _, rfl, by rw [Txt.linesD_zero]; exact HW, BW, by rw [Txt.linesD_zero]; exact LW⟩
      case round =>
        clear HW BW LW hlt hn
        obtain ⟨d, hd, rfl, HW, BW, LW⟩ := hrel
        by_cases hld : d < 3
        case pos =>
          have jd : (d : Int) < 3 := by omega
          have td : decide ((d : Int) < 3) = true := by simp; omega
          go_wp2_with fail
          go_loopw [29] (fun i wr => ∃ s : Nat, s ≤ 4 ∧ i = .int .i64 s ∧ Hid (Wr B B (Txt.stream (Txt.linesE m d s)) wr) ∧ Hid (Below B w wr) ∧ Hid ((Txt.stream (Txt.linesE m d s)).length ≤ 400000 * (8 + 4 * d + s))) (fun i _ => 4 - (intOf i).toNat)
          case atStart => exact ⟨0, Nat.zero_le _, rfl, by rw [Txt.linesE_zero]; exact HW, BW, by rw [Txt.linesE_zero]; exact LW⟩
          case round =>
            clear HW BW LW
            obtain ⟨s, hs, rfl, HW, BW, LW⟩ := hrel
            have HI := hide ((unhide HM).below (unhide BW) (unhide GL))
            by_cases hls : s < 4
            case pos =>
              have js : (s : Int) < 4 := by omega
              have ts : decide ((s : Int) < 4) = true := by simp; omega
              have e0 := (unhide HI).name d s hld hls
              cases hl : m.named d s
              case false =>
                have E := hide (Txt.linesE_no hl)
                have en : (m.name d s).toList.isEmpty = true := by unfold Img.named at hl; simpa using hl
                clear hl HI
                go_wp2_with fail
                go_roundw
                case rel => exact ⟨s + 1, by omega, by go_num, by rw [unhide E]; exact HW, BW, hide (by have := unhide LW; rw [unhide E]; omega)⟩
                case measure => simp [intOf]; omega
              case true =>
                have E := hide (Txt.linesE_yes hl)
                have en : (m.name d s).toList.isEmpty = false := by unfold Img.named at hl; simpa using hl
                have D := hide (entry_any d s g (40 + d * 12 + s * 3) (m.name d s) (m.ino d s) (m.est d s) (unhide HW) (tab_block (unhide HT) ((unhide BW).block 1 (unhide TL))) (Nat.le_of_lt (unhide HW).lt) (by omega) (by omega) ((unhide FF).ino d s hld hls) ((unhide FF).est d s hld hls) ((unhide FF).name d s hld hls) (unhide GL) ((unhide HI).name d s hld hls) ((unhide HI).ino d s hld hls) ((unhide HI).est d s hld hls) (by have := unhide LW; omega))
                have LE := hide (ent_le (unhide FF) hld hls)
                clear hl HI
                go_wp2_with fail
                refine (unhide D).mono ?_
                rintro e w2 ⟨rfl, h2, b2⟩
                have H2 := hide (show Wr B B (Txt.stream (Txt.linesE m d (s + 1))) w2 by rw [unhide E]; exact h2)
                have B2 := hide (show Below B w w2 from (unhide BW).trans b2)
                have L2 := hide (show (Txt.stream (Txt.linesE m d (s + 1))).length ≤ 400000 * (8 + 4 * d + (s + 1)) by rw [unhide E, List.length_append]; have := unhide LW; have := unhide LE; omega)
                clear h2 b2 D E LE
                go_wp2_with fail
                go_roundw
                case rel =>
                  repeat apply Exists.intro
                  exact ⟨⟨s + 1, by omega, by go_num, H2, B2, L2⟩, rfl⟩
                case measure => simp [intOf]; omega
            case neg =>
              have e4 : s = 4 := by omega
              subst e4
              clear HI
              go_wp2_with fail
              go_roundw
              case rel => exact ⟨d + 1, by omega, by go_num, by rw [← Txt.linesE_four]; exact HW, BW, hide (by have := unhide LW; rw [← Txt.linesE_four]; omega)⟩
              case measure => simp [intOf]; omega
        case neg =>
          have e3 : d = 3 := by omega
          subst e3
          go_wp2_with fail
          go_loopw [54] (fun i wr => ∃ x : Nat, x ≤ 9 ∧ i = .int .i64 x ∧ Hid (Wr B B (Txt.stream (Txt.linesX m x)) wr) ∧ Hid (Below B w wr) ∧ Hid ((Txt.stream (Txt.linesX m x)).length ≤ 400000 * (20 + x))) (fun i _ => 9 - (intOf i).toNat)
          case atStart => exact ⟨0, Nat.zero_le _, rfl, by rw [Txt.linesX_zero]; exact HW, BW, by rw [Txt.linesX_zero]; exact LW⟩
          case round =>
            clear HW BW LW hld hd
            obtain ⟨x, hx, rfl, HW, BW, LW⟩ := hrel
            have HI := hide ((unhide HM).below (unhide BW) (unhide GL))
            by_cases hlx : x < 9
            case pos =>
              have jx : (x : Int) < 9 := by omega
              have tx : decide ((x : Int) < 9) = true := by simp; omega
              have e0 := (unhide HI).of x hlx
              by_cases hl : m.of x = 0
              case pos =>
                have E := hide (Txt.linesX_no hl)
                rw [hl] at e0
                clear hl HI
                go_wp2_with fail
                go_roundw
                case rel => exact ⟨x + 1, by omega, by go_num, by rw [unhide E]; exact HW, BW, hide (by have := unhide LW; rw [unhide E]; omega)⟩
                case measure => simp [intOf]; omega
              case neg =>
                have E := hide (Txt.linesX_yes hl)
                have q0 : (m.of x == 0) = false := by simpa using hl
                have D := hide (data_any x g (76 + x * 2) (m.of x) (m.text x) (unhide HW) (tab_block (unhide HT) ((unhide BW).block 1 (unhide TL))) (Nat.le_of_lt (unhide HW).lt) (by omega) ((unhide FF).of x hlx) ((unhide FF).text x hlx) (unhide GL) ((unhide HI).of x hlx) ((unhide HI).text x hlx) (by have := unhide LW; omega))
                have LE := hide (dat_le (unhide FF) hlx)
                clear hl HI
                go_wp2_with fail
                refine (unhide D).mono ?_
                rintro e w2 ⟨rfl, h2, b2⟩
                have H2 := hide (show Wr B B (Txt.stream (Txt.linesX m (x + 1))) w2 by rw [unhide E]; exact h2)
                have B2 := hide (show Below B w w2 from (unhide BW).trans b2)
                have L2 := hide (show (Txt.stream (Txt.linesX m (x + 1))).length ≤ 400000 * (20 + (x + 1)) by rw [unhide E, List.length_append]; have := unhide LW; have := unhide LE; omega)
                clear h2 b2 D E LE
                go_wp2_with fail
                go_roundw
                case rel =>
                  repeat apply Exists.intro
                  exact ⟨⟨x + 1, by omega, by go_num, H2, B2, L2⟩, rfl⟩
                case measure => simp [intOf]; omega
            case neg =>
              have e9 : x = 9 := by omega
              subst e9
              have D := hide (string_any (unhide HW) (Nat.le_of_lt (unhide HW).lt))
              clear HI
              go_wp2_with fail
              refine (unhide D).mono ?_
              rintro e w2 ⟨rfl, b2⟩
              have B2 := hide (show Below B w w2 from (unhide BW).trans b2)
              clear b2 D
              go_wp2_with fail
              go_ret
              exact ⟨rfl, by rw [unhide HB]; exact unhide B2⟩
end Go.Proofs.YtlbgkpibaahglacDoor
