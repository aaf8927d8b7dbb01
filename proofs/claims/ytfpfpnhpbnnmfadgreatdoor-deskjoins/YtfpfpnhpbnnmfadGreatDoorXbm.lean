/-
  The walk of text.Print.
-/
import Derived.Test.YtfpfpnhpbnnmfadGreatDoorXbl
import Derived.Test.YtfpfpnhpbnnmfadGreatDoorXbi
import Derived.Test.YtfpfpnhpbnnmfadGreatDoorXab
import Derived.Test.YtfpfpnhpbnnmfadGreatDoorXbh
import Derived.Lib.FieldsP
import Derived.Lib.AtoiAll
set_option linter.unusedVariables false
namespace Go.Proofs.YtfpfpnhpbnnmfadGreatDoor
open Go.RowKit
/-- numbers of 64 bits, texts that are not too long -/
structure Fine (m : Img) : Prop where
  stamp : ∀ n, n < 8 → I64 (m.stamp n)
  links : ∀ n, n < 8 → I64 (m.links n)
  part : ∀ n p, n < 8 → p < 2 → I64 (m.part n p)
  ino : ∀ d s, d < 3 → s < 4 → I64 (m.ino d s)
  est : ∀ d s, d < 3 → s < 4 → I64 (m.est d s)
  of : ∀ x, x < 9 → I64 (m.of x)
  name : ∀ d s, d < 3 → s < 4 → (m.name d s).size ≤ 100000
  text : ∀ x, x < 9 → (m.text x).size ≤ 100000
theorem ino_le {m : Img} (f : Fine m) {n : Nat} (hn : n < 8) : (Txt.line (Txt.inoW m n)).length ≤ 400000 := by
  have e1 := itoa_len (I64.nat (n := n) (by omega))
  have e2 := itoa_len (f.stamp n hn)
  have e3 := itoa_len (f.links n hn)
  have e4 := itoa_len (f.part n 0 hn (by omega))
  have e5 := itoa_len (f.part n 1 hn (by omega))
  simp only [Txt.inoW, Txt.line, Txt.tailW, List.length_append, List.length_cons, List.length_nil]
  omega
theorem ent_le {m : Img} (f : Fine m) {d s : Nat} (hd : d < 3) (hs : s < 4) : (Txt.line (Txt.entW m d s)).length ≤ 400000 := by
  have e1 := itoa_len (I64.nat (n := d) (by omega))
  have e2 := itoa_len (I64.nat (n := s) (by omega))
  have e3 := f.name d s hd hs
  have e4 := itoa_len (f.ino d s hd hs)
  have e5 := itoa_len (f.est d s hd hs)
  rw [← len_bytes] at e3
  simp only [Txt.entW, Txt.line, Txt.tailW, List.length_append, List.length_cons, List.length_nil]
  omega
theorem dat_le {m : Img} (f : Fine m) {x : Nat} (hx : x < 9) : (Txt.line (Txt.datW m x)).length ≤ 400000 := by
  have e1 := itoa_len (I64.nat (n := x) (by omega))
  have e3 := f.text x hx
  have e4 := itoa_len (f.of x hx)
  have e5 := (Txt.showR_len (m.text x).toList).2
  rw [← len_bytes] at e3
  simp only [Txt.datW, Txt.line, Txt.tailW, Txt.shows, List.length_append, List.length_cons, List.length_nil]
  omega
set_option maxHeartbeats 2000000 in
set_option maxRecDepth 100000 in
theorem Print_any (g : Nat) (m : Img) (w : World) (hm : HasImg w g m) (f : Fine m) (ht : Tab w) :
    Calls Tryz.prog 60 #[.pointer (some ⟨g, 0, none⟩)] w fun e w' => e = .returned (.string ⟨(Txt.printed m).toArray⟩) ∧ Below w.heap.size w w' := by
  have FR := hide (Wr.fresh w)
  have BF := hide (show Below w.heap.size w (w.alloc (.cells #[.pointer none, .slice none 0 0] 150)) from (Below.refl _ w).alloc (Nat.le_refl _) _)
  have FF := hide f
  have HM := hide hm
  have HT := hide ht
  have GL := hide hm.lt
  have TL := hide (tab_lt ht)
  clear hm ht f
  go_enter Tryz.func60, Tryz.ntmps60
  go_wp2_with fail
  generalize w.alloc (.cells #[.pointer none, .slice none 0 0] 150) = w1 at FR BF ⊢
  generalize hB : w.heap.size = B at FR BF GL TL ⊢
  have HB := hide hB
  clear hB
  go_loopw [8] (fun i wr => ∃ n : Nat, n ≤ 8 ∧ i = .int .i64 n ∧ Hid (Wr B B (Txt.stream (Txt.linesI m n)) wr) ∧ Hid (Below B w wr) ∧ Hid ((Txt.stream (Txt.linesI m n)).length ≤ 400000 * n)) (fun i _ => 8 - (intOf i).toNat)
  case atStart => exact ⟨0, Nat.zero_le _, rfl, FR, BF, hide (Nat.le_refl _)⟩
  case round =>
    clear FR BF
    obtain ⟨n, hn, rfl, HW, BW, LW⟩ := hrel
    have HI := hide ((unhide HM).below (unhide BW) (unhide GL))
    by_cases hlt : n < 8
    case pos =>
      have jn : (n : Int) < 8 := by omega
      have tn : decide ((n : Int) < 8) = true := by simp; omega
      have e0 := (unhide HI).live n hlt
      cases hl : m.live n <;> rw [hl] at e0
      case false =>
        have E := hide (Txt.linesI_no hl)
        clear hl HI
        go_wp2_with fail
        go_roundw
        case rel => exact ⟨n + 1, by omega, by go_num, by rw [unhide E]; exact HW, BW, hide (by have := unhide LW; rw [unhide E]; omega)⟩
        case measure => simp [intOf]; omega
      case true =>
        have E := hide (Txt.linesI_yes hl)
        have D := hide (tInode_any n g (n * 5) (m.stamp n) (m.links n) (m.part n 0) (m.part n 1) (unhide HW) (tab_block (unhide HT) ((unhide BW).block 4 (unhide TL))) (Nat.le_of_lt (unhide HW).lt) (by omega) ((unhide FF).stamp n hlt) ((unhide FF).links n hlt) ((unhide FF).part n 0 hlt (by omega)) ((unhide FF).part n 1 hlt (by omega)) (unhide GL) ((unhide HI).stamp n hlt) ((unhide HI).links n hlt) ((unhide HI).part n 0 hlt (by omega)) ((unhide HI).part n 1 hlt (by omega)) (by have := unhide LW; omega))
        have LE := hide (ino_le (unhide FF) hlt)
        clear hl HI
        go_wp2_with fail
        refine (unhide D).mono ?_
        rintro e w2 ⟨rfl, h2, b2⟩
        have H2 := hide (show Wr B B (Txt.stream (Txt.linesI m (n + 1))) w2 by rw [unhide E]; exact h2)
        have B2 := hide (show Below B w w2 from (unhide BW).trans b2)
        have L2 := hide (show (Txt.stream (Txt.linesI m (n + 1))).length ≤ 400000 * (n + 1) by rw [unhide E, List.length_append]; have := unhide LW; have := unhide LE; omega)
        clear h2 b2 D E LE
        go_wp2_with fail
        go_roundw
        case rel => exact ⟨n + 1, by omega, by go_num, H2, B2, L2⟩
        case measure => simp [intOf]; omega
    case neg =>
      have e8 : n = 8 := by omega
      subst e8
      clear HI
      go_wp2_with fail
      go_loopw [26] (fun i wr => ∃ d : Nat, d ≤ 3 ∧ i = .int .i64 d ∧ Hid (Wr B B (Txt.stream (Txt.linesD m d)) wr) ∧ Hid (Below B w wr) ∧ Hid ((Txt.stream (Txt.linesD m d)).length ≤ 400000 * (8 + 4 * d))) (fun i _ => 3 - (intOf i).toNat)
      case atStart => exact ⟨0, Nat.zero_le _, rfl, by rw [Txt.linesD_zero]; exact HW, BW, by rw [Txt.linesD_zero]; exact LW⟩
      case round =>
        clear HW BW LW hlt hn
        obtain ⟨d, hd, rfl, HW, BW, LW⟩ := hrel
        by_cases hld : d < 3
        case pos =>
          have jd : (d : Int) < 3 := by omega
          have td : decide ((d : Int) < 3) = true := by simp; omega
          go_wp2_with fail
          go_loopw [29] (fun i wr => ∃ s : Nat, s ≤ 4 ∧ i = .int .i64 s ∧ Hid (Wr B B (Txt.stream (Txt.linesE m d s)) wr) ∧ Hid (Below B w wr) ∧ Hid ((Txt.stream (Txt.linesE m d s)).length ≤ 400000 * (8 + 4 * d + s))) (fun i _ => 4 - (intOf i).toNat)
          case atStart => exact ⟨0, Nat.zero_le _, rfl, by rw [Txt.linesE_zero]; exact HW, BW, by rw [Txt.linesE_zero]; exact LW⟩
          case round =>
            clear HW BW LW
            obtain ⟨s, hs, rfl, HW, BW, LW⟩ := hrel
            have HI := hide ((unhide HM).below (unhide BW) (unhide GL))
            by_cases hls : s < 4
            case pos =>
              have js : (s : Int) < 4 := by omega
              have ts : decide ((s : Int) < 4) = true := by simp; omega
              have e0 := (unhide HI).name d s hld hls
              cases hl : m.named d s
              case false =>
                have E := hide (Txt.linesE_no hl)
                have en : (m.name d s).toList.isEmpty = true := by unfold Img.named at hl; simpa using hl
                clear hl HI
                go_wp2_with fail
                go_roundw
                case rel => exact ⟨s + 1, by omega, by go_num, by rw [unhide E]; exact HW, BW, hide (by have := unhide LW; rw [unhide E]; omega)⟩
                case measure => simp [intOf]; omega
              case true =>
                have E := hide (Txt.linesE_yes hl)
                have en : (m.name d s).toList.isEmpty = false := by unfold Img.named at hl; simpa using hl
                have D := hide (entry_any d s g (40 + d * 12 + s * 3) (m.name d s) (m.ino d s) (m.est d s) (unhide HW) (tab_block (unhide HT) ((unhide BW).block 4 (unhide TL))) (Nat.le_of_lt (unhide HW).lt) (by omega) (by omega) ((unhide FF).ino d s hld hls) ((unhide FF).est d s hld hls) ((unhide FF).name d s hld hls) (unhide GL) ((unhide HI).name d s hld hls) ((unhide HI).ino d s hld hls) ((unhide HI).est d s hld hls) (by have := unhide LW; omega))
                have LE := hide (ent_le (unhide FF) hld hls)
                clear hl HI
                go_wp2_with fail
                refine (unhide D).mono ?_
                rintro e w2 ⟨rfl, h2, b2⟩
                have H2 := hide (show Wr B B (Txt.stream (Txt.linesE m d (s + 1))) w2 by rw [unhide E]; exact h2)
                have B2 := hide (show Below B w w2 from (unhide BW).trans b2)
                have L2 := hide (show (Txt.stream (Txt.linesE m d (s + 1))).length ≤ 400000 * (8 + 4 * d + (s + 1)) by rw [unhide E, List.length_append]; have := unhide LW; have := unhide LE; omega)
                clear h2 b2 D E LE
                go_wp2_with fail
                go_roundw
                case rel =>
                  repeat apply Exists.intro
                  exact ⟨⟨s + 1, by omega, by go_num, H2, B2, L2⟩, rfl⟩
                case measure => simp [intOf]; omega
            case neg =>
              have e4 : s = 4 := by omega
              subst e4
              clear HI
              go_wp2_with fail
              go_roundw
              case rel => exact ⟨d + 1, by omega, by go_num, by rw [← Txt.linesE_four]; exact HW, BW, hide (by have := unhide LW; rw [← Txt.linesE_four]; omega)⟩
              case measure => simp [intOf]; omega
        case neg =>
          have e3 : d = 3 := by omega
          subst e3
          go_wp2_with fail
          go_loopw [54] (fun i wr => ∃ x : Nat, x ≤ 9 ∧ i = .int .i64 x ∧ Hid (Wr B B (Txt.stream (Txt.linesX m x)) wr) ∧ Hid (Below B w wr) ∧ Hid ((Txt.stream (Txt.linesX m x)).length ≤ 400000 * (20 + x))) (fun i _ => 9 - (intOf i).toNat)
          case atStart => exact ⟨0, Nat.zero_le _, rfl, by rw [Txt.linesX_zero]; exact HW, BW, by rw [Txt.linesX_zero]; exact LW⟩
          case round =>
            clear HW BW LW hld hd
            obtain ⟨x, hx, rfl, HW, BW, LW⟩ := hrel
            have HI := hide ((unhide HM).below (unhide BW) (unhide GL))
            by_cases hlx : x < 9
            case pos =>
              have jx : (x : Int) < 9 := by omega
              have tx : decide ((x : Int) < 9) = true := by simp; omega
              have e0 := (unhide HI).of x hlx
              by_cases hl : m.of x = 0
              case pos =>
                have E := hide (Txt.linesX_no hl)
                rw [hl] at e0
                clear hl HI
                go_wp2_with fail
                go_roundw
                case rel => exact ⟨x + 1, by omega, by go_num, by rw [unhide E]; exact HW, BW, hide (by have := unhide LW; rw [unhide E]; omega)⟩
                case measure => simp [intOf]; omega
              case neg =>
                have E := hide (Txt.linesX_yes hl)
                have q0 : (m.of x == 0) = false := by simpa using hl
                have D := hide (data_any x g (76 + x * 2) (m.of x) (m.text x) (unhide HW) (tab_block (unhide HT) ((unhide BW).block 4 (unhide TL))) (Nat.le_of_lt (unhide HW).lt) (by omega) ((unhide FF).of x hlx) ((unhide FF).text x hlx) (unhide GL) ((unhide HI).of x hlx) ((unhide HI).text x hlx) (by have := unhide LW; omega))
                have LE := hide (dat_le (unhide FF) hlx)
                clear hl HI
                go_wp2_with fail
                refine (unhide D).mono ?_
                rintro e w2 ⟨rfl, h2, b2⟩
                have H2 := hide (show Wr B B (Txt.stream (Txt.linesX m (x + 1))) w2 by rw [unhide E]; exact h2)
                have B2 := hide (show Below B w w2 from (unhide BW).trans b2)
                have L2 := hide (show (Txt.stream (Txt.linesX m (x + 1))).length ≤ 400000 * (20 + (x + 1)) by rw [unhide E, List.length_append]; have := unhide LW; have := unhide LE; omega)
                clear h2 b2 D E LE
                go_wp2_with fail
                go_roundw
                case rel =>
                  repeat apply Exists.intro
                  exact ⟨⟨x + 1, by omega, by go_num, H2, B2, L2⟩, rfl⟩
                case measure => simp [intOf]; omega
            case neg =>
              have e9 : x = 9 := by omega
              subst e9
              have D := hide (string_any (unhide HW) (Nat.le_of_lt (unhide HW).lt))
              clear HI
              go_wp2_with fail
              refine (unhide D).mono ?_
              rintro e w2 ⟨rfl, b2⟩
              have B2 := hide (show Below B w w2 from (unhide BW).trans b2)
              clear b2 D
              go_wp2_with fail
              go_ret
              exact ⟨rfl, by rw [unhide HB]; exact unhide B2⟩
end Go.Proofs.YtfpfpnhpbnnmfadGreatDoor
namespace Go.Proofs.YtfpfpnhpbnnmfadGreatDoor
namespace Txt
section
variable {m k : Img}
theorem mem_lines {l : List (List UInt8)} : l ∈ lines m ↔ (∃ n, n < 8 ∧ m.live n = true ∧ l = inoW m n) ∨ (∃ d s, d < 3 ∧ s < 4 ∧ m.named d s = true ∧ l = entW m d s) ∨ (∃ x, x < 9 ∧ m.of x ≠ 0 ∧ l = datW m x) := by
  unfold lines linesX linesD linesI
  rw [List.mem_append, List.mem_append, mem_upto, mem_upto, mem_upto, or_assoc]
  refine or_congr ?_ (or_congr ?_ ?_)
  · refine exists_congr fun n => and_congr_right fun _ => ?_
    unfold inoL
    cases m.live n <;> simp
  · constructor
    · rintro ⟨d, hd, h⟩
      obtain ⟨s, hs, h⟩ := mem_upto.1 h
      refine ⟨d, s, hd, hs, ?_⟩
      unfold entL at h
      cases e : m.named d s <;> rw [e] at h
      · simp at h
      · exact ⟨rfl, by simpa using h⟩
    · rintro ⟨d, s, hd, hs, e, h⟩
      exact ⟨d, hd, mem_upto.2 ⟨s, hs, by unfold entL; rw [if_pos e, h]; exact List.mem_singleton_self _⟩⟩
  · refine exists_congr fun x => and_congr_right fun _ => ?_
    unfold datL
    by_cases e : m.of x = 0
    · rw [if_pos e]; simp [e]
    · rw [if_neg e]; simp [e]
theorem ba_list {a b : ByteArray} (h : a.toList = b.toList) : a = b := by
  rw [ByteArray.toList_eq, ByteArray.toList_eq] at h
  cases a; cases b
  exact congrArg _ (Array.toList_inj.1 h)
theorem named_empty {d s : Nat} (h : m.named d s = false) : (m.name d s).toList = [] := by
  unfold Img.named at h
  cases e : (m.name d s).toList with
  | nil => rfl
  | cons a r => rw [e] at h; cases h
theorem slot_none (hc : m.check = 0) {d s : Nat} (hd : d < 3) (hs : s < 4) (h : m.named d s = false) : m.ino d s = 0 ∧ m.est d s = 0 := by
  have := (Img.well_iff.1 hc).slot d s hd hs
  unfold Img.checkSlot at this
  rw [if_pos h] at this
  by_cases e : m.ino d s = 0 ∧ m.est d s = 0
  · exact e
  · rw [if_neg e] at this; cases this
theorem ino_none (hc : m.check = 0) {n : Nat} (hn : n < 8) (h : m.live n = false) : m.stamp n = 0 ∧ m.links n = 0 ∧ m.part n 0 = -1 ∧ m.part n 1 = -1 := by
  have := (Img.well_iff.1 hc).inode n hn
  unfold Img.checkInode at this
  rw [if_pos h] at this
  by_cases e : m.free n
  · exact e
  · rw [if_neg e] at this; cases this
end
end Txt
end Go.Proofs.YtfpfpnhpbnnmfadGreatDoor
namespace Go.Proofs.YtfpfpnhpbnnmfadGreatDoor
open Idl (Stp chk)
namespace Img
variable {now disk : Img} {last : Int}
/-- no data is of a Stamp beyond K, no text is long -/
structure Dat (K : Int) (m : Img) : Prop where
  of : ∀ x, x < 9 → 0 ≤ m.of x ∧ m.of x ≤ K
  text : ∀ x, x < 9 → (m.text x).size ≤ 8
/-- no inode counts much -/
def Lnk (m : Img) : Prop := ∀ n, n < 8 → 0 ≤ m.links n ∧ m.links n ≤ 12
theorem Dat.same {K : Int} {m k : Img} (h : Dat K m) (e1 : k.of = m.of) (e2 : k.text = m.text) : Dat K k := ⟨fun x hx => by rw [e1]; exact h.of x hx, fun x hx => by rw [e2]; exact h.text x hx⟩
theorem Dat.put {K : Int} {m : Img} (h : Dat K m) (y : Nat) {o : Int} (t : ByteArray) (h0 : 0 ≤ o ∧ o ≤ K) (ht : t.size ≤ 8) : Dat K (m.putData y o t) := by
  refine ⟨fun x hx => ?_, fun x hx => ?_⟩
  · show 0 ≤ (if x = y then o else m.of x) ∧ (if x = y then o else m.of x) ≤ K
    split
    · exact h0
    · exact h.of x hx
  · show (if x = y then t else m.text x).size ≤ 8
    split
    · exact ht
    · exact h.text x hx
theorem Dat.write {K : Int} (h : Hold now disk last) (h1 : Dat K now) (h2 : Dat K disk) (b : Int) : Dat K (Img.write now disk b) := by
  refine ⟨fun x hx => ?_, fun x hx => ?_⟩ <;> rcases (wr_of h.good.ex.ok h.ok h.fit b).dat x hx with z | z
  · rw [z.1]; exact h2.of x hx
  · rw [z.1]; exact h1.of x hx
  · rw [z.2]; exact h2.text x hx
  · rw [z.2]; exact h1.text x hx
theorem Dat.down {K : Int} (h1 : Dat K now) : ∀ b {D : Img}, Hold now D last → Dat K D → Dat K (Img.down now D b)
  | 0, _, _, h => h
  | b + 1, _, h, h2 => by unfold Img.down; exact Dat.down h1 b (h.write _) (Dat.write h h1 h2 _)
theorem Dat.syn {K : Int} (h1 : Dat K now) : ∀ f {D : Img}, Hold now D last → Dat K D → Dat K (Img.syn now f D).2
  | 0, _, _, h => h
  | f + 1, D, h, h2 => by
    cases e : sameImg now D
    · rw [syn_step e]; exact Dat.syn h1 f (h.down 14) (Dat.down h1 14 h h2)
    · rw [syn_stop e]; exact h2
theorem Dat.crash {K : Int} (h : Dat K disk) (hK : 0 ≤ K) : Dat K (mend disk) := by
  refine ⟨fun x hx => ?_, fun x hx => ?_⟩
  · rw [(mend_data disk hx).1]
    split
    · exact ⟨Int.le_refl _, hK⟩
    · exact h.of x hx
  · rw [(mend_data disk hx).2]
    split
    · exact Nat.zero_le _
    · exact h.text x hx
theorem lnk_put {m : Img} (h : Lnk m) (n : Nat) {i : Ino} (hi : 0 ≤ i.links ∧ i.links ≤ 12) : Lnk (m.putIno n i) := fun k hk => by
  show 0 ≤ (if k = n then i.links else m.links k) ∧ (if k = n then i.links else m.links k) ≤ 12
  split
  · exact hi
  · exact h k hk
theorem lnk_as (now disk : Img) (n : Nat) : 0 ≤ (inodeAs now disk n).links ∧ (inodeAs now disk n).links ≤ 12 := by
  have := uni_le now disk n
  unfold inodeAs
  split
  · exact ⟨by simp, by simp; omega⟩
  · split
    · exact ⟨by simp, by simp; omega⟩
    · exact ⟨Int.le_refl _, by decide⟩
theorem lnk_inos (h : Lnk disk) (n : Nat) : ∀ k, Lnk (wInos now disk n k)
  | 0 => h
  | k + 1 => lnk_put (lnk_inos h n k) _ (lnk_as _ _ _)
theorem lnk_dir (h : Lnk disk) (d : Nat) : ∀ k, Lnk (wDir now disk d k)
  | 0 => h
  | k + 1 => fun n hn => lnk_dir h d k n hn
theorem Lnk.write (h : Lnk disk) (b : Int) : Lnk (Img.write now disk b) := by
  unfold Img.write
  split
  · exact h
  · split
    · exact lnk_inos h _ 4
    · split
      · exact lnk_dir h _ 4
      · exact fun n hn => h n hn
theorem Lnk.down : ∀ b {D : Img}, Lnk D → Lnk (Img.down now D b)
  | 0, _, h => h
  | b + 1, _, h => by unfold Img.down; exact Lnk.down b (h.write _)
theorem Lnk.syn : ∀ f {D : Img}, Lnk D → Lnk (Img.syn now f D).2
  | 0, _, h => h
  | f + 1, D, h => by
    cases e : sameImg now D
    · rw [syn_step e]; exact Lnk.syn f (h.down 14)
    · rw [syn_stop e]; exact h
theorem Ex.lnk {m : Img} (h : Ex m) : Lnk m := fun n hn => by
  cases hl : m.live n
  · have hc := (well_iff.1 h.ok).inode n hn
    unfold checkInode at hc
    rw [if_pos hl] at hc
    have hf : m.free n := by
      by_cases c : m.free n
      · exact c
      · rw [if_neg c] at hc; omega
    rw [hf.2.1]
    exact ⟨Int.le_refl _, by decide⟩
  · have := h.links n hn hl
    have := m.refs_le n
    omega
theorem Dat.step {K : Int} (h : Hold now disk last) (h1 : Dat K now) (x : Stp) (hK : last ≤ K) : Dat K (sstep now disk last x) := by
  by_cases hc : scode now disk x = 0
  · have same : ∀ k : Img, k.of = now.of → k.text = now.text → Dat K k := fun k e1 e2 => h1.same e1 e2
    have dr : ∀ (m : Img) d s, (dropped m d s).of = m.of ∧ (dropped m d s).text = m.text := fun m d s => by
      unfold dropped
      split
      · exact ⟨rfl, rfl⟩
      · exact ⟨rfl, rfl⟩
    rcases sstep_cases (last := last) hc with ⟨_, e⟩ | ⟨_, e⟩ | ⟨_, e⟩ | ⟨_, e⟩ | ⟨k5, e⟩ | ⟨_, e⟩ <;> rw [e]
    · exact same _ rfl rfl
    · exact same _ rfl rfl
    · exact same _ (dr _ _ _).1 (dr _ _ _).2
    · exact same _ (dr _ _ _).1 (dr _ _ _).2
    · have t := take hc
      obtain ⟨_, n, th⟩ := there h.good.ex.ok (t.old (by omega))
      have n8 := th.n8
      have nl := th.live
      rw [← Int.toNat_natCast n, ← th.of] at n8 nl
      have s1 := (inode_parts_ok h.good.ex.ok n8 nl).1
      have s2 := h.good.last _ n8 nl
      have tx : x.text.size ≤ 8 := by
        have ck := t.chk
        unfold Idl.chk at ck
        repeat' split at ck
        all_goals first | omega | skip
      have key : ∀ m : Img, m.of = now.of → m.text = now.text → ∀ y, Dat K (m.putData y (now.stamp (inoOf now x.dir x.name).toNat) x.text) := fun m e1 e2 y => (h1.same e1 e2).put y _ ⟨by omega, by omega⟩ tx
      unfold putPart
      by_cases c : now.part (inoOf now x.dir x.name).toNat x.p.toNat < 0
      · simp only [if_pos c]
        rw [(setPart_same _ _ _ _).2]
        exact key (now.setPart (inoOf now x.dir x.name).toNat x.p.toNat (freeData now disk)) rfl rfl _
      · simp only [if_neg c]
        exact key now rfl rfl _
    · exact same _ rfl rfl
  · rw [sstep_code hc]; exact h1
end Img
/-- what is told of a life's images and counts -/
structure Lv.Neat (S : Lv) : Prop where
  now : Img.Dat 1000000 S.now
  disk : Img.Dat 1000000 S.disk
  lnk : Img.Lnk S.disk
  lf : 0 ≤ S.lf ∧ S.lf ≤ 9
  lc : 0 ≤ S.lc ∧ S.lc ≤ 9
  ld : 0 ≤ S.ld ∧ S.ld ≤ 9
theorem blank_dat : ∀ x, x < 9 → (0 ≤ blankI.of x ∧ blankI.of x ≤ 1000000) ∧ (blankI.text x).size ≤ 8 := by decide +kernel
theorem blank_lnk : ∀ n, n < 8 → 0 ≤ blankI.links n ∧ blankI.links n ≤ 12 := by decide +kernel
theorem Lv.Neat.start : Lv.new.Neat :=
  ⟨⟨fun x hx => (blank_dat x hx).1, fun x hx => (blank_dat x hx).2⟩, ⟨fun x hx => (blank_dat x hx).1, fun x hx => (blank_dat x hx).2⟩, blank_lnk, ⟨Int.le_refl _, by decide⟩, ⟨Int.le_refl _, by decide⟩, ⟨Int.le_refl _, by decide⟩⟩
theorem Lv.Neat.any {S : Lv} {n : Nat} (h : S.Neat) (hO : S.Ok n) (hn : n ≤ 1000000) (x : Stp) : (S.step x).Neat := by
  have hl : S.last ≤ 1000000 := by have := hO.few; omega
  unfold Lv.step Img.lnow Img.ldisk Img.llast
  by_cases h9 : x.kind = 9
  · rw [if_pos h9]
    have hd := h.disk.crash (by decide)
    have c1 := Img.cnt_le (Img.goes S.disk) 8
    have c2 := Img.cnt_le (Img.other (Img.mend1 S.disk)) 8
    have c3 := Img.cnt_le (Img.lost (Img.mend2 S.disk)) 9
    refine ⟨hd, hd, ?_, ⟨Int.natCast_nonneg _, ?_⟩, ⟨Int.natCast_nonneg _, ?_⟩, ⟨Int.natCast_nonneg _, ?_⟩⟩
    · exact (hO.hold.any ⟨9, 0, 0, 0, ⟨#[]⟩, ⟨#[]⟩, ⟨#[]⟩⟩).good.ex.lnk
    · show ((Img.lostF S.disk : Nat) : Int) ≤ 9; unfold Img.lostF; omega
    · show ((Img.lostC S.disk : Nat) : Int) ≤ 9; unfold Img.lostC; omega
    · show ((Img.lostD S.disk : Nat) : Int) ≤ 9; unfold Img.lostD; omega
  · rw [if_neg h9]
    simp only [if_neg h9]
    by_cases h7 : x.kind = 7
    · rw [if_pos (.inl h7), if_pos h7]
      exact ⟨h.now, Img.Dat.write hO.hold h.now h.disk _, h.lnk.write _, h.lf, h.lc, h.ld⟩
    · by_cases h8 : x.kind = 8
      · rw [if_pos (.inr h8), if_neg h7, if_pos h8]
        exact ⟨h.now, Img.Dat.syn h.now 8 hO.hold h.disk, Img.Lnk.syn 8 h.lnk, h.lf, h.lc, h.ld⟩
      · rw [if_neg (by omega), if_neg h7, if_neg h8]
        exact ⟨Img.Dat.step hO.hold h.now x hl, h.disk, h.lnk, h.lf, h.lc, h.ld⟩
theorem Lv.fine {S : Lv} {n : Nat} (h : S.Neat) (hO : S.Ok n) (hn : n ≤ 1000000) : Fine S.disk := by
  have hc := hO.hold.ok
  have hl : S.last ≤ 1000000 := by have := hO.few; omega
  have st : ∀ k, k < 8 → 0 ≤ S.disk.stamp k ∧ S.disk.stamp k ≤ 1000000 := fun k hk => by
    cases e : S.disk.live k
    · rw [(Txt.ino_none hc hk e).1]; omega
    · have := hO.hold.old k hk e
      have := (Img.inode_parts_ok hc hk e).1
      omega
  have sl : ∀ d s, d < 3 → s < 4 → (0 ≤ S.disk.ino d s ∧ S.disk.ino d s < 8) ∧ (0 ≤ S.disk.est d s ∧ S.disk.est d s ≤ 1000000) ∧ (S.disk.name d s).size ≤ 6 := fun d s hd hs => by
    cases e : S.disk.named d s
    · have z := Txt.slot_none hc hd hs e
      rw [z.1, z.2]
      refine ⟨by omega, by omega, ?_⟩
      have := congrArg List.length (Txt.named_empty e)
      rw [len_bytes] at this
      rw [this]; exact Nat.zero_le _
    · have k := (Img.slot_ok e).1 ((Img.well_iff.1 hc).slot d s hd hs)
      have h1 := k.lo
      have h2 := k.hi
      have h3 := st _ (show (S.disk.ino d s).toNat < 8 by omega)
      rw [k.stamp] at h3
      refine ⟨⟨h1, h2⟩, h3, ?_⟩
      have := k.nm
      unfold Img.isNmB at this
      simp only [Bool.and_eq_true, decide_eq_true_eq] at this
      rw [len_bytes] at this
      exact this.1.2
  refine ⟨fun k hk => ?_, fun k hk => ?_, fun k p hk hp => ?_, fun d s hd hs => ?_, fun d s hd hs => ?_, fun x hx => ?_, fun d s hd hs => ?_, fun x hx => ?_⟩
  · have := st k hk; exact ⟨by omega, by omega⟩
  · have := h.lnk k hk; exact ⟨by omega, by omega⟩
  · cases e : S.disk.live k
    · have z := Txt.ino_none hc hk e
      have : S.disk.part k p = -1 := by
        match p, hp with
        | 0, _ => exact z.2.2.1
        | 1, _ => exact z.2.2.2
      rw [this]; exact ⟨by omega, by omega⟩
    · rcases Img.checkPart_iff.1 ((Img.inode_parts_ok hc hk e).2.2 p hp) with y | y
      · rw [y]; exact ⟨by omega, by omega⟩
      · have := y.1
        unfold Img.isD at this
        simp only [Bool.and_eq_true, decide_eq_true_eq] at this
        exact ⟨by omega, by omega⟩
  · have := (sl d s hd hs).1; exact ⟨by omega, by omega⟩
  · have := (sl d s hd hs).2.1; exact ⟨by omega, by omega⟩
  · have := h.disk.of x hx; exact ⟨by omega, by omega⟩
  · have := (sl d s hd hs).2.2; omega
  · have := h.disk.text x hx; omega
end Go.Proofs.YtfpfpnhpbnnmfadGreatDoor
