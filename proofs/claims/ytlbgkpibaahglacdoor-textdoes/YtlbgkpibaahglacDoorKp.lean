/-
  The law TextDoes.
-/
import Derived.Test.YtlbgkpibaahglacDoorKn
import Derived.Test.YtlbgkpibaahglacDoorKo
import Derived.Test.YtlbgkpibaahglacDoorKj
import Derived.Test.YtlbgkpibaahglacDoorKl
import Derived.Test.YtlbgkpibaahglacDoorTh
import Derived.Test.YtlbgkpibaahglacDoorTg
set_option linter.unusedVariables false
namespace Go.Proofs.YtlbgkpibaahglacDoor
open Go.RowKit
theorem Nums.fine9 {m : Img} (h : Nums m) (s : Short m) : Fine m := ⟨h.stamp, h.links, h.part, h.ino, h.est, h.of, fun d s' hd hs => by have := s.name d s' hd hs; omega, fun x hx => by have := s.text x hx; omega⟩
theorem Meant_yes (s : ByteArray) (l : List UInt8) (h : s.toList = Txt.shows l) (hs : s.size ≤ 100000000) (w : World) :
    Calls Tryd.prog 8 #[.string s] w fun e w' => e = .returned (.tuple #[.string ⟨l.toArray⟩, .bool true]) ∧ Below w.heap.size w w' :=
  (Meant_any s hs w).mono fun e w' ⟨he, hb⟩ => ⟨by
    rcases he with ⟨k, hk, he⟩ | ⟨hn, _⟩
    · rw [he, Txt.shows_inj.1 (hk.symm.trans h)]
    · exact absurd h (hn l), hb⟩
theorem Meant_no (s : ByteArray) (h : ∀ l, s.toList ≠ Txt.shows l) (hs : s.size ≤ 100000000) (w : World) :
    Calls Tryd.prog 8 #[.string s] w fun e w' => e = .returned (.tuple #[.string ⟨#[]⟩, .bool false]) ∧ Below w.heap.size w w' :=
  (Meant_any s hs w).mono fun e w' ⟨he, hb⟩ => ⟨by
    rcases he with ⟨k, hk, he⟩ | ⟨_, he⟩
    · exact absurd hk (h k)
    · exact he, hb⟩
/-- both tell the same -/
theorem means_both (t : ByteArray) (ht : t.size ≤ 100000000) : ∃ (xs : List UInt8) (ok : Bool), (∀ w, Calls Tryd.prog 7 #[.string t] w fun e w' => e = .returned (.tuple #[.string (mkb xs), .bool ok]) ∧ Below w.heap.size w w') ∧ (∀ w, Calls Tryd.prog 8 #[.string t] w fun e w' => e = .returned (.tuple #[.string (mkb xs), .bool ok]) ∧ Below w.heap.size w w') := by
  by_cases h : ∃ l, t.toList = Txt.shows l
  · obtain ⟨l, hl⟩ := h
    exact ⟨l, true, fun w => Mean_yes t l hl (by omega) w, fun w => Meant_yes t l hl ht w⟩
  · exact ⟨[], false, fun w => Mean_no t (fun l e => h ⟨l, e⟩) (by omega) w, fun w => Meant_no t (fun l e => h ⟨l, e⟩) ht w⟩
theorem Boxes.one8 (w : World) (a : Array Value) : Boxes w (w.alloc (.cells a 34)) [(w.heap.size, a)] := (Boxes.start w).box a
set_option maxHeartbeats 2000000 in
set_option maxRecDepth 100000 in
theorem textDoes_any (cs : Array Value) (hk : Kinds cs) (nm : Nums (imgOf cs)) (s t : ByteArray) (hs : s.size ≤ 140737488355328) (ht : t.size ≤ 140737488355328) (w : World) (tb : Tab w) :
    Calls Tryd.prog 3 #[.agg cs, .string s, .string t] w fun e w' => e = .returned (.bool true) ∧ Below w.heap.size w w' := by
  have hi := hk.isImg
  have z := zero_img.1
  have B0 := hide (Boxes.one8 w cs)
  have TB := hide tb
  have TL := hide (tab_lt tb)
  have NM := hide nm
  have hw : wrap64 ((s.size : Int) + (t.size : Int)) = (s.size : Int) + (t.size : Int) := (by unfold wrap64; omega)
  have SS := hide (And.intro hs ht)
  clear tb nm hs ht
  have TX := hide (fun V (hb : Below w.heap.size w V) => show Tab V from tab_block (unhide TB) (hb.block 1 (unhide TL)))
  go_enter Tryd.func3, Tryd.ntmps3
  go_wp2_with fail
  generalize w.alloc (.cells cs 34) = X0 at B0 ⊢
  refine (textBegun_any _ (unhide TX _ (unhide B0).below)).mono ?_
  rintro e w1 ⟨rfl, hb1⟩
  have B1 := hide ((unhide B0).call hb1)
  clear B0 hb1
  have r1 := hide ((unhide B1).row (w.heap.size, cs) (by simp))
  go_wp2_with (have hx := unhide r1; refine wpList_load_row rfl 34 _ rfl w.heap.size rfl 34 cs (0, 0) _ hx img_under rfl (img_info hi.size) ?_; clear hx r1)
  refine (great8_any cs _ hi _).mono ?_
  rintro e w2 ⟨⟨v, rfl, s1⟩, hb2⟩
  have B2 := hide ((unhide B1).call hb2)
  have S1 := hide s1
  clear B1 hb2 s1
  cases v
  case true =>
    go_wp2_with fail
    go_ret
    exact ⟨rfl, (unhide B2).below⟩
  have FM := hide ((unhide NM).fine9 (unhide S1 rfl))
  clear S1 NM
  by_cases hbig : 2000 < s.size + t.size
  case pos =>
    have q0 : decide ((2000 : Int) < (s.size : Int) + (t.size : Int)) = true := by simp; omega
    clear hbig
    go_wp2_with fail
    go_ret
    exact ⟨rfl, (unhide B2).below⟩
  have q0 : decide ((2000 : Int) < (s.size : Int) + (t.size : Int)) = false := by simp; omega
  obtain ⟨xs, okb, m1, m2⟩ := means_both t (by omega)
  have M1 := hide m1
  have M2 := hide m2
  have W1 := hide (fun V => Show_any s (by omega) V)
  have W2 := hide (fun V => Shown_any s (by omega) V)
  clear m1 m2 hbig SS
  have r2 := hide ((unhide B2).row (w.heap.size, cs) (by simp))
  have s2 := hide (heap_alloc_last w2 (.cells zeroCells 34))
  have BA := hide ((unhide B2).new cs)
  go_upto_region 6 with (first | (have hx := unhide r2; refine wpList_load_row rfl 34 _ rfl w.heap.size rfl 34 cs (0, 0) _ hx img_under rfl (img_info hi.size) ?_; clear hx r2) | (have hx := unhide s2; refine wpList_store_row rfl 34 _ _ rfl w2.heap.size cs rfl rfl 34 zeroCells hx (img_info hi.size) (zero_size hi) hi.all ?_; clear hx s2))
  try simp only [Act.put]
  generalize (w2.alloc (.cells zeroCells 34)).setRow w2.heap.size cs = X3 at BA ⊢
  generalize w2.heap.size = g3 at BA ⊢
  clear B2
  go_wp2_with fail
  refine (unhide M1 _).mono ?_
  rintro e w4 ⟨rfl, hb4⟩
  have B4 := hide ((unhide BA).call hb4)
  clear BA hb4 M1
  go_wp2_with fail
  refine (unhide M2 _).mono ?_
  rintro e w5 ⟨rfl, hb5⟩
  have B5 := hide ((unhide B4).call hb5)
  clear B4 hb5 M2
  have P1 := hide (Print_any w.heap.size (imgOf cs) w5 ((unhide B5).has (g := w.heap.size) (by simp) hi) (unhide FM) (unhide TX _ (unhide B5).below))
  go_wp2_with fail
  refine (unhide P1).mono ?_
  rintro e w6 ⟨rfl, hb6⟩
  have B6 := hide ((unhide B5).call hb6)
  clear B5 hb6 P1
  have P2 := hide (TextOf_any w.heap.size cs (imgOf cs) w6 ((unhide B6).row (w.heap.size, cs) (by simp)) hi (unhide FM) (unhide TX _ (unhide B6).below))
  go_wp2_with fail
  refine (unhide P2).mono ?_
  rintro e w7 ⟨rfl, hb7⟩
  have B7 := hide ((unhide B6).call hb7)
  clear B6 hb7 P2
  have r3 := hide ((unhide B7).row (w.heap.size, cs) (by simp))
  have r4 := hide ((unhide B7).row (g3, cs) (by simp))
  have qe := fun W => eqImg hi W
  generalize Txt.printed (imgOf cs) = PP
  go_wp2_with (first | (have hx := unhide r3; refine wpList_load_row_g rfl 34 _ rfl w.heap.size rfl 34 cs (0, 0) _ hx img_under rfl (img_info hi.size) ?_; clear hx r3) | (have hx := unhide r4; refine wpList_load_row_g rfl 34 _ rfl g3 rfl 34 cs (0, 0) _ hx img_under rfl (img_info hi.size) ?_; clear hx r4))
  refine (unhide W1 _).mono ?_
  rintro e w8 ⟨rfl, hb8⟩
  have B8 := hide ((unhide B7).call hb8)
  clear B7 hb8 W1
  go_wp2_with fail
  refine (unhide W2 _).mono ?_
  rintro e w9 ⟨rfl, hb9⟩
  have B9 := hide ((unhide B8).call hb9)
  clear B8 hb9 W2
  generalize Txt.shows s.toList = SS
  go_wp2_with fail
  go_ret
  exact ⟨by simp, (unhide B9).below⟩
end Go.Proofs.YtlbgkpibaahglacDoor
