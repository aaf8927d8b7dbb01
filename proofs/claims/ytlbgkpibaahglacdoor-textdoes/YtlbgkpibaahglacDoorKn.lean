/-
  The walk of eiderdownref.Meant.
-/
import Derived.Test.YtlbgkpibaahglacDoorKm
import Derived.Laws.IdiomStrings
set_option linter.unusedVariables false
namespace Go.Proofs.YtlbgkpibaahglacDoor
open Go.RowKit
open Txt (ba_list)
/-- 'string([]byte{b})' -/
theorem one_back (V : World) (b : UInt8) : (convert 46 9 (.slice (some ⟨V.heap.size, 0, none⟩) 1 1)).run Tryd.prog (V.alloc (.cells #[.int .u8 (b.toNat : Int)] 5)) = .ok (.string (mkb [b])) (V.alloc (.cells #[.int .u8 (b.toNat : Int)] 5)) :=
  run_convert_bytes_back _ 46 9 5 ⟨V.heap.size, 0, none⟩ 1 [b] Tryd.underlying46 Tryd.underlying5 Tryd.underlying9 (fun j hj => by
    match j, hj with
    | 0, _ => rw [addr_add, Lib.cell_of_heap (heap_alloc_last V _)]; rfl)
/-- how far the search for a byte has come: none ahead of c; or one was found -/
def Seen (s : ByteArray) (acc : List UInt8) (a : Nat) (c : Nat) (h : Bool) (acc' : List UInt8) (a' : Nat) : Prop :=
  (h = false ∧ acc' = acc ∧ a' = a ∧ ∀ ch : UInt8, ch.toNat < c → ∀ r, s.toList.drop a ≠ Txt.showB ch ++ r) ∨
  (h = true ∧ ∃ ch, acc' = acc ++ [ch] ∧ a' = a + (Txt.showB ch).length ∧ s.toList.drop a = Txt.showB ch ++ s.toList.drop a')
theorem Seen.next {s : ByteArray} {acc : List UInt8} {a c : Nat} (hc : c < 256) (h : Seen s acc a c false acc a) (hn : ∀ r, s.toList.drop a ≠ Txt.showB (UInt8.ofNat c) ++ r) : Seen s acc a (c + 1) false acc a := by
  rcases h with ⟨_, _, _, h⟩ | ⟨z, _⟩
  · refine .inl ⟨rfl, rfl, rfl, fun ch hch r => ?_⟩
    by_cases e : ch.toNat = c
    · have : ch = UInt8.ofNat c := by rw [← e]; exact UInt8.ofNat_toNat.symm
      rw [this]; exact hn r
    · exact h ch (by omega) r
  · cases z
theorem cut_eq {s : ByteArray} {a L : Nat} (h : a + L ≤ s.size) : (s.extract a (a + L)).toList = (s.toList.drop a).take L := by
  rw [ByteArray.toList_eq, ByteArray.toList_eq, ByteArray.data_extract, Array.toList_extract]
  show (s.data.toList.drop a).take (a + L - a) = _
  rw [show a + L - a = L by omega]
theorem head_iff {x p : List UInt8} : (x.take p.length == p) = true ↔ ∃ r, x = p ++ r := by
  rw [beq_iff_eq]
  constructor
  · intro h
    exact ⟨x.drop p.length, by rw [← List.take_append_drop p.length x]; rw [h]; simp⟩
  · rintro ⟨r, rfl⟩
    simp
set_option maxHeartbeats 1000000 in
set_option maxRecDepth 100000 in
theorem Meant_any (s : ByteArray) (hs : s.size ≤ 100000000) (w : World) :
    Calls Tryd.prog 8 #[.string s] w fun e w' => MeanIs s e ∧ Below w.heap.size w w' := by
  by_cases h0 : s.size = 0
  case pos =>
    have F := hide (show MeanIs s (.returned (.tuple #[.string ⟨#[]⟩, .bool false])) from .inr ⟨fun l e => by have := congrArg List.length e; rw [len_bytes, h0] at this; simp [Txt.shows] at this, rfl⟩)
    go_enter Tryd.func8, Tryd.ntmps8
    go_wp2_with fail
    go_ret2
    exact ⟨unhide F, Below.refl _ _⟩
  have h1 : 0 < s.size := by omega
  have z1 : (0 : Int) < (s.size : Int) := by omega
  have q0 : ((s.size : Int) == 0) = false := by rw [beq_eq_false_iff_ne]; omega
  by_cases h61 : s[0] = 61
  case neg =>
    have F := hide (show MeanIs s (.returned (.tuple #[.string ⟨#[]⟩, .bool false])) from .inr ⟨fun l e => by rw [bytes_one s h1] at e; exact h61 (List.cons.inj e).1, rfl⟩)
    have n61 : (((s[0]).toNat : Int) != 61) = true := by rw [bne_iff_ne]; intro z; exact h61 (UInt8.toNat_inj.1 (by show (s[0]).toNat = 61; omega))
    clear h61
    go_enter Tryd.func8, Tryd.ntmps8
    go_wp2_with fail
    go_ret2
    exact ⟨unhide F, Below.refl _ _⟩
  have y61 : (s[0]).toNat = 61 := by rw [h61]; rfl
  have ES := hide (show s.toList = 61 :: (Txt.showR [] ++ s.toList.drop 1) by
    have := bytes_one s h1
    rw [h61] at this
    exact this)
  clear h61
  go_enter Tryd.func8, Tryd.ntmps8
  go_wp2_with fail
  go_loopw [4, 5] (fun o i wr => ∃ (acc : List UInt8) (a : Nat), o = .string (mkb acc) ∧ i = .int .i64 a ∧ 1 ≤ a ∧ a ≤ s.size ∧ Hid (s.toList = 61 :: (Txt.showR acc ++ s.toList.drop a)) ∧ Hid (Below w.heap.size w wr)) (fun _ i _ => s.size - (intOf i).toNat)
  case atStart => exact ⟨[], 1, rfl, rfl, by omega, by omega, ES, hide (Below.refl _ _)⟩
  case round =>
    clear ES
    obtain ⟨acc, a, rfl, rfl, ha1, ha2, ST, BR⟩ := hrel
    by_cases hlt : a < s.size
    case neg =>
      have hz : ¬ (a : Int) < (s.size : Int) := by omega
      have F := hide (show MeanIs s (.returned (.tuple #[.string (mkb acc), .bool true])) from .inl ⟨acc, by
        have := unhide ST
        rw [List.drop_of_length_le (by rw [len_bytes]; omega), List.append_nil] at this
        exact this, rfl⟩)
      go_wp2_with fail
      go_ret2
      exact ⟨unhide F, unhide BR⟩
    case pos =>
      have hz : (a : Int) < (s.size : Int) := by omega
      have LA := hide (show acc.length ≤ s.size by
        have h1 := congrArg List.length (unhide ST)
        have h2 := (Txt.showR_len acc).1
        rw [List.length_cons, List.length_append, len_bytes] at h1
        omega)
      go_wp2_with fail
      go_loopw [4, 5, 6, 7] (fun o i h cv wr => ∃ (acc' : List UInt8) (a' c : Nat) (hb : Bool), o = .string (mkb acc') ∧ i = .int .i64 a' ∧ h = .bool hb ∧ cv = .int .i64 c ∧ c ≤ 256 ∧ Hid (Seen s acc a c hb acc' a') ∧ Hid (Below w.heap.size w wr)) (fun _ _ _ cv _ => 256 - (intOf cv).toNat)
      case atStart => exact ⟨acc, a, 0, false, rfl, rfl, rfl, rfl, by omega, hide (.inl ⟨rfl, rfl, rfl, fun ch h => by omega⟩), BR⟩
      case round =>
        clear BR
        obtain ⟨acc', a', c, hb, rfl, rfl, rfl, rfl, hc, SN, BR⟩ := hrel
        cases hb
        case true =>
          have G := hide (show a < a' ∧ a' ≤ s.size ∧ s.toList = 61 :: (Txt.showR acc' ++ s.toList.drop a') by
            rcases unhide SN with ⟨z, _⟩ | ⟨_, ch, e1, e2, e3⟩
            · cases z
            · have hl := Txt.showB_len ch
              have hn := congrArg List.length e3
              rw [List.length_append, List.length_drop, List.length_drop, len_bytes] at hn
              refine ⟨by omega, by omega, ?_⟩
              rw [e1, Txt.showR_append, Txt.showR_one, List.append_assoc, ← e3]
              exact unhide ST)
          have g1 := (unhide G).1
          have g2 := (unhide G).2.1
          have G3 := hide (unhide G).2.2
          clear SN G
          by_cases hc6 : (c : Int) < 256
          all_goals
            go_wp2_with fail
            go_roundw
            case rel => exact ⟨acc', a', rfl, rfl, by omega, by omega, G3, BR⟩
            case measure => simp [intOf]; omega
        case false =>
          have EQ := hide (show acc' = acc ∧ a' = a by
            rcases unhide SN with ⟨_, e1, e2, _⟩ | ⟨z, _⟩
            · exact ⟨e1, e2⟩
            · cases z)
          obtain rfl := (unhide EQ).1
          obtain rfl := (unhide EQ).2
          clear EQ
          by_cases hc6 : c < 256
          case neg =>
            have e6 : c = 256 := by omega
            subst e6
            have F := hide (show MeanIs s (.returned (.tuple #[.string ⟨#[]⟩, .bool false])) from .inr ⟨(fun l e => by
              rw [unhide ST] at e
              refine Txt.stuck (acc := acc') (fun z => ?_) (fun ch r => ?_) l e
              · have := congrArg List.length z
                rw [List.length_drop, len_bytes, List.length_nil] at this
                omega
              · rcases unhide SN with ⟨_, _, _, h⟩ | ⟨z, _⟩
                · exact h ch (by have := ch.toNat_lt; omega) r
                · cases z), rfl⟩)
            go_wp2_with fail
            go_ret2
            exact ⟨unhide F, unhide BR⟩
          case pos =>
            have tc : (c : Int) < 256 := by omega
            obtain ⟨b, hbb⟩ : ∃ b : UInt8, b = UInt8.ofNat c := ⟨_, rfl⟩
            have hbn : b.toNat = c := by rw [hbb, UInt8.toNat_ofNat']; omega
            have cf := one_back wr b
            rw [hbn] at cf
            have HBB := hide hbb
            clear hbb hbn
            have hm : (c : Int) % 256 = (c : Int) := by omega
            have S1 := hide (fun V => Shown_any (mkb [b]) (by rw [mk_size]; simp) V)
            rw [Lib_mk [b]] at S1
            go_wp2_with fail
            refine (unhide S1 _).mono ?_
            rintro e w2 ⟨rfl, b2⟩
            have B2 := hide (show Below w.heap.size w w2 from ((unhide BR).alloc (unhide BR).size _).trans (b2.mono (by have := (unhide BR).size; simp; omega)))
            clear b2 S1 cf
            obtain ⟨SH, hSH⟩ : ∃ x : List UInt8, x = Txt.showB b := ⟨_, rfl⟩
            have EX := hide (show (mkb (Txt.shows [b])).extract 1 (Txt.shows [b]).length = mkb SH by
              have h := drop_bytes (mkb (Txt.shows [b])) 1
              rw [mk_size (Txt.shows [b]), Lib_mk (Txt.shows [b])] at h
              refine ba_list ?_
              rw [h, Lib_mk SH, hSH]
              show (61 :: Txt.showR [b]).drop 1 = _
              rw [Txt.showR_one]; rfl)
            have e1 : (1 : Int) ≤ ((mkb (Txt.shows [b])).size : Int) := by rw [mk_size]; simp [Txt.shows]; omega
            have HSH := hide hSH
            have SL := hide (show 1 ≤ SH.length ∧ SH.length ≤ 3 by rw [hSH]; exact Txt.showB_len b)
            clear hSH
            go_upto_region 11 with fail
            rw [unhide EX]
            clear EX e1
            have sl1 := (unhide SL).1
            have sl2 := (unhide SL).2
            have NX := hide (fun (hno : ∀ r, s.toList.drop a' ≠ SH ++ r) => (unhide SN).next hc6 (by rw [← unhide HBB, ← unhide HSH]; exact hno))
            have ms : (mkb SH).size = SH.length := mk_size SH
            by_cases hfit : a' + SH.length ≤ s.size
            case neg =>
              have N2 := hide (unhide NX (fun r e => by
                have h1 := congrArg List.length e
                rw [List.length_drop, len_bytes, List.length_append] at h1
                omega))
              have hf : ¬ (a' : Int) + (SH.length : Int) ≤ (s.size : Int) := by omega
              clear NX SN hfit
              go_wp2_with fail
              go_roundw
              case rel => exact ⟨acc', a', c + 1, false, rfl, rfl, rfl, by go_num, by omega, N2, B2⟩
              case measure => simp [intOf]; omega
            case pos =>
              have hf : (a' : Int) + (SH.length : Int) ≤ (s.size : Int) := by omega
              have CT := cut_eq hfit
              obtain ⟨v, hv⟩ : ∃ v : Bool, v = ((s.toList.drop a').take SH.length == SH) := ⟨_, rfl⟩
              have qv : ((s.extract a' (a' + SH.length)).toList == SH) = v := by rw [CT, hv]
              have HV := hide hv
              clear hv CT
              cases v
              case false =>
                have N2 := hide (unhide NX (fun r e => by
                  have := head_iff.2 ⟨r, e⟩
                  rw [← unhide HV] at this
                  cases this))
                clear NX SN hfit
                go_wp2_with fail
                go_roundw
                case rel => exact ⟨acc', a', c + 1, false, rfl, rfl, rfl, by go_num, by omega, N2, B2⟩
                case measure => simp [intOf]; omega
              case true =>
                have N2 := hide (show Seen s acc' a' (c + 1) true (acc' ++ [b]) (a' + SH.length) from .inr ⟨rfl, b, rfl, by rw [unhide HSH], by
                  obtain ⟨r, hr⟩ := head_iff.1 (unhide HV).symm
                  rw [← unhide HSH, ← List.drop_drop, hr]
                  simp⟩)
                have cf := one_back w2 b
                rw [show b.toNat = c by rw [unhide HBB, UInt8.toNat_ofNat']; omega] at cf
                have ct := cat_mk acc' [b]
                have la : (mkb acc').size + (mkb [b]).size ≤ 9223372036854775807 := by rw [mk_size, mk_size]; have := unhide LA; simp; omega
                have B3 := hide (show Below w.heap.size w (w2.alloc (.cells #[.int .u8 (c : Int)] 5)) from (unhide B2).alloc (unhide B2).size _)
                clear NX SN hfit
                go_wp2_with fail
                go_roundw
                case rel => exact ⟨acc' ++ [b], a' + SH.length, c + 1, true, by first | rfl | rw [ct], by go_num, rfl, by go_num, by omega, N2, B3⟩
                case measure => simp [intOf]; omega
end Go.Proofs.YtlbgkpibaahglacDoor
