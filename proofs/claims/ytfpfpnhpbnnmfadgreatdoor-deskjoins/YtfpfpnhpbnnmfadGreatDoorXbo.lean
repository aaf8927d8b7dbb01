/-
  Layer 9 as plain functions: what a line tells, and what is so behind it. No Go in here.
-/
import Derived.Test.YtfpfpnhpbnnmfadGreatDoorXbm
import Derived.Test.YtfpfpnhpbnnmfadGreatDoorXbb
import Derived.Lib.AtoiAllCases
import Derived.Shelf.Strings.Search3
import Derived.Shelf.Strings.FieldsFuncAny
import Derived.Shelf.Strconv.AtoiAll
import Derived.Shelf.Pu.Clone
import Derived.Test.YtfpfpnhpbnnmfadGreatDoorProg
import Derived.Test.YtfpfpnhpbnnmfadGreatDoorXbn
import Derived.Laws.MakeOwn
import Derived.Laws.OwnMore
namespace Go.Proofs.YtfpfpnhpbnnmfadGreatDoor
open Idl (Stp chk)
namespace Dsk
def wOk : List UInt8 := [111, 107]
def wNo : List UInt8 := [110, 111]
def wWhat : List UInt8 := [119, 104, 97, 116]
def wNone : List UInt8 := [110, 111, 110, 101]
def wNames : List UInt8 := [110, 97, 109, 101, 115]
def wTrue : List UInt8 := [116, 114, 117, 101]
def wFalse : List UInt8 := [102, 97, 108, 115, 101]
def wEnd : List UInt8 := [101, 110, 100]
def wDirty : List UInt8 := [100, 105, 114, 116, 121]
def wLost : List UInt8 := [108, 111, 115, 116]
def wRead : List UInt8 := [114, 101, 97, 100]
def wList : List UInt8 := [108, 105, 115, 116]
def wSame : List UInt8 := [115, 97, 109, 101]
def wSure : List UInt8 := [115, 117, 114, 101]
def wDisk : List UInt8 := [100, 105, 115, 107]
/-- what a word says as a number; -1: it is none -/
def num (s : ByteArray) : Int :=
  match Lib.atoiAll s.data.toList with
  | .ok v => if v < 0 then -1 else if Lib.itoa v = s.data.toList then v else -1
  | _ => -1
def meanF : Nat → List UInt8 → Option (List UInt8)
  | _, [] => some []
  | 0, _ => none
  | f + 1, l => if (Txt.meant1 l).2 = 0 then none else (meanF f (l.drop (Txt.meant1 l).2)).map ((Txt.meant1 l).1 :: ·)
/-- the text that a word shows -/
def meanL : List UInt8 → Option (List UInt8)
  | 61 :: r => meanF r.length r
  | _ => none
def mean (s : ByteArray) : Option ByteArray := (meanL s.toList).map fun l => ⟨l.toArray⟩
theorem meanF_iff : ∀ (f : Nat) (l t : List UInt8), l.length ≤ f → (meanF f l = some t ↔ l = Txt.showR t)
  | f, [], t, _ => by
    have e : meanF f [] = some [] := by cases f <;> rfl
    rw [e]
    constructor
    · intro h; cases h; rfl
    · intro h
      have := (Txt.showR_len t).1
      rw [← h] at this
      cases t with
      | nil => rfl
      | cons c r => simp at this
  | 0, a :: r, t, h => by simp at h
  | f + 1, a :: r, t, h => by
    have e : meanF (f + 1) (a :: r) = if (Txt.meant1 (a :: r)).2 = 0 then none else (meanF f ((a :: r).drop (Txt.meant1 (a :: r)).2)).map ((Txt.meant1 (a :: r)).1 :: ·) := rfl
    rw [e]
    by_cases c : (Txt.meant1 (a :: r)).2 = 0
    · rw [if_pos c]
      constructor
      · intro z; cases z
      · intro z
        cases t with
        | nil => cases z
        | cons b q => exact absurd z (Txt.meant1_none c b (Txt.showR q))
    · rw [if_neg c]
      obtain ⟨h1, h2, h3⟩ := Txt.meant1_some c
      have ih := fun t => meanF_iff f ((a :: r).drop (Txt.meant1 (a :: r)).2) t (by rw [List.length_drop]; omega)
      rw [Option.map_eq_some_iff]
      constructor
      · rintro ⟨q, hq, rfl⟩
        rw [ih] at hq
        rw [hq] at h3
        exact h3
      · intro z
        cases t with
        | nil => cases z
        | cons b q =>
          have z2 : Txt.showB (Txt.meant1 (a :: r)).1 ++ (a :: r).drop (Txt.meant1 (a :: r)).2 = Txt.showB b ++ Txt.showR q := by rw [← h3]; exact z
          obtain ⟨e1, e2⟩ := Txt.showB_free z2
          exact ⟨q, (ih q).2 e2, by rw [e1]⟩
theorem meanL_iff (l t : List UInt8) : meanL l = some t ↔ l = Txt.shows t := by
  unfold meanL Txt.shows
  split
  · rename_i r
    rw [meanF_iff _ _ _ (Nat.le_refl _)]
    simp
  · rename_i h
    constructor
    · intro z; cases z
    · intro z; exact absurd z (h _)
structure Frm where
  word : ByteArray
  places : ByteArray
  kind : Int
/-- the lines that there are -/
def frms : List Frm := [
  ⟨⟨#[109, 97, 107, 101]⟩, ⟨#[68, 78]⟩, 1⟩,
  ⟨⟨#[117, 110, 108, 105, 110, 107]⟩, ⟨#[68, 78]⟩, 3⟩,
  ⟨⟨#[108, 105, 110, 107]⟩, ⟨#[68, 78, 69, 77]⟩, 2⟩,
  ⟨⟨#[114, 101, 110, 97, 109, 101]⟩, ⟨#[68, 78, 69, 77]⟩, 4⟩,
  ⟨⟨#[112, 117, 116]⟩, ⟨#[68, 78, 80, 84]⟩, 5⟩,
  ⟨⟨#[99, 117, 116]⟩, ⟨#[68, 78, 80]⟩, 6⟩,
  ⟨⟨#[119, 114, 105, 116, 101]⟩, ⟨#[66]⟩, 7⟩,
  ⟨⟨#[115, 121, 110, 99]⟩, ⟨#[]⟩, 8⟩,
  ⟨⟨#[99, 114, 97, 115, 104]⟩, ⟨#[]⟩, 9⟩,
  ⟨⟨#[114, 101, 97, 100]⟩, ⟨#[68, 78, 80]⟩, 0⟩,
  ⟨⟨#[108, 105, 115, 116]⟩, ⟨#[68]⟩, 0⟩,
  ⟨⟨#[115, 97, 109, 101]⟩, ⟨#[68, 78, 69, 77]⟩, 0⟩,
  ⟨⟨#[115, 117, 114, 101]⟩, ⟨#[68, 78]⟩, 0⟩,
  ⟨⟨#[100, 105, 115, 107]⟩, ⟨#[]⟩, 0⟩,
  ⟨⟨#[100, 105, 114, 116, 121]⟩, ⟨#[]⟩, 0⟩,
  ⟨⟨#[108, 111, 115, 116]⟩, ⟨#[]⟩, 0⟩]
def isFrm (w : ByteArray) (n : Nat) (f : Frm) : Bool := f.word.toList == w.toList && f.places.size == n
def fill (x : Stp) (c : UInt8) (w : ByteArray) : Option Stp :=
  if c = 68 then some { x with dir := num w }
  else if c = 78 then some { x with name := w }
  else if c = 69 then some { x with toDir := num w }
  else if c = 77 then some ⟨x.kind, x.dir, x.toDir, x.p, x.name, w, x.text⟩
  else if c = 80 ∨ c = 66 then some { x with p := num w }
  else if c = 84 then (mean w).map fun t => { x with text := t }
  else some x
def fills : Stp → List UInt8 → List ByteArray → Option Stp
  | x, c :: cs, w :: ws => (fill x c w).bind fun y => fills y cs ws
  | x, _, _ => some x
def blank (k : Int) : Stp := ⟨k, 0, 0, 0, ⟨#[]⟩, ⟨#[]⟩, ⟨#[]⟩⟩
/-- the step that a line is, or, of the kind 0, what it asks for -/
def meant (w : ByteArray) (more : List ByteArray) : Option Stp :=
  match frms.find? (isFrm w more.length) with
  | none => none
  | some f => fills (blank f.kind) f.places.toList more
def ansStep (S : Lv) (x : Stp) : List UInt8 := if S.code x ≠ 0 then Txt.line [wNo, Lib.itoa (S.code x)] else Txt.line [wOk]
def ansRead (S : Lv) (x : Stp) : List UInt8 :=
  if Img.sreadC S.now x.dir x.name x.p ≠ 0 then Txt.line [wNo, Lib.itoa (Img.sreadC S.now x.dir x.name x.p)]
  else if Img.sreadB S.now x.dir x.name x.p = false then Txt.line [wNone]
  else Txt.line [Txt.shows (Img.sreadT S.now x.dir x.name x.p).toList]
def yes (b : Bool) : List UInt8 := if b then wTrue else wFalse
def dirtyTo (S : Lv) : Nat → List Int
  | 0 => []
  | n + 1 => dirtyTo S n ++ if Img.dirty S.now S.disk (n : Int) = true then [(n : Int)] else []
def ansAsk (S : Lv) (w : List UInt8) (x : Stp) : List UInt8 :=
  if w = wRead then ansRead S x
  else if w = wList then Txt.line (wNames :: (Img.snames S.now x.dir).map (·.toList))
  else if w = wSame then Txt.line [yes (Img.ssame S.now x.dir x.name x.toDir x.to)]
  else if w = wSure then Txt.line [yes (Img.ssure S.now S.disk x.dir x.name)]
  else if w = wDisk then Txt.printed S.disk ++ Txt.line [wEnd]
  else if w = wDirty then Txt.line (wDirty :: (dirtyTo S 14).map Lib.itoa)
  else if w = wLost then Txt.line (wLost :: [S.cr, S.lf, S.lc, S.ld].map Lib.itoa)
  else []
/-- what the words of a line tell -/
def told (S : Lv) : List ByteArray → List UInt8
  | [] => []
  | w :: more =>
    match meant w more with
    | none => Txt.line [wWhat]
    | some x => if x.kind ≠ 0 then ansStep S x else ansAsk S w.toList x
/-- what is so behind it -/
def next (S : Lv) : List ByteArray → Lv
  | [] => S
  | w :: more =>
    match meant w more with
    | none => S
    | some x => if x.kind ≠ 0 then S.step x else S
def words (s : ByteArray) : List ByteArray := Lib.goFieldsP (fun r => r == 32) s
/-- what lines tell, and what is so behind them -/
def tells : Lv → List ByteArray → List UInt8
  | _, [] => []
  | S, s :: L => told S (words s) ++ tells (next S (words s)) L
def nexts : Lv → List ByteArray → Lv
  | S, [] => S
  | S, s :: L => nexts (next S (words s)) L
theorem tells_append : ∀ (S : Lv) (a b : List ByteArray), tells S (a ++ b) = tells S a ++ tells (nexts S a) b
  | _, [], _ => rfl
  | S, s :: a, b => by
    show told S (words s) ++ tells (next S (words s)) (a ++ b) = _
    rw [tells_append]
    show _ = (told S (words s) ++ tells (next S (words s)) a) ++ tells (nexts (next S (words s)) a) b
    rw [List.append_assoc]
theorem nexts_append : ∀ (S : Lv) (a b : List ByteArray), nexts S (a ++ b) = nexts (nexts S a) b
  | _, [], _ => rfl
  | S, s :: a, b => nexts_append (next S (words s)) a b
/-- what a line may leave -/
theorem next_cases (S : Lv) (ws : List ByteArray) : next S ws = S ∨ ∃ x, next S ws = S.step x := by
  unfold next
  split
  · exact .inl rfl
  · split
    · exact .inl rfl
    · split
      · exact .inr ⟨_, rfl⟩
      · exact .inl rfl
end Dsk
end Go.Proofs.YtfpfpnhpbnnmfadGreatDoor
namespace Go.Proofs
open Go.Shelf
def Tryz.lays144_ren : Go.Shelf.Ren := ⟨fun | 144 => 16 | 143 => 26 | 219 => 48 | 217 => 72 | 225 => 73 | 224 => 74 | 267 => 75 | 266 => 102 | 314 => 103 | n => n, fun | 9 => 9 | 4 => 4 | 3 => 3 | 5 => 5 | 46 => 37 | 146 => 164 | 51 => 163 | n => n, fun | 1 => 1 | n => n⟩
theorem Tryz.lays144 : Go.Proofs.Lays.n144 Tryz.prog Tryz.lays144_ren := {
  mixed := by kernel_rfl
  f143 := Tryz.func26.trans (congrArg some (by kernel_rfl))
  f144 := Tryz.func16.trans (congrArg some (by kernel_rfl))
  f217 := Tryz.func72.trans (congrArg some (by kernel_rfl))
  f219 := Tryz.func48.trans (congrArg some (by kernel_rfl))
  f224 := Tryz.func74.trans (congrArg some (by kernel_rfl))
  f225 := Tryz.func73.trans (congrArg some (by kernel_rfl))
  f266 := Tryz.func102.trans (congrArg some (by kernel_rfl))
  f267 := Tryz.func75.trans (congrArg some (by kernel_rfl))
  f314 := Tryz.func103.trans (congrArg some (by kernel_rfl))
  t3 := Tryz.underlying3
  a3 := Tryz.isAgg3
  z3 := Tryz.sizeOf3
  v3 := Tryz.zeroValue3
  t4 := Tryz.underlying4
  a4 := Tryz.isAgg4
  z4 := Tryz.sizeOf4
  v4 := Tryz.zeroValue4
  t5 := Tryz.underlying5
  a5 := Tryz.isAgg5
  z5 := Tryz.sizeOf5
  v5 := Tryz.zeroValue5
  t9 := Tryz.underlying9
  a9 := Tryz.isAgg9
  z9 := Tryz.sizeOf9
  v9 := Tryz.zeroValue9
  t46 := Tryz.underlying37
  a46 := Tryz.isAgg37
  z46 := Tryz.sizeOf37
  v46 := Tryz.zeroValue37
  t51 := Tryz.underlying163
  a51 := Tryz.isAgg163
  z51 := Tryz.sizeOf163
  v51 := Tryz.zeroValue163
  t146 := Tryz.underlying164
  a146 := Tryz.isAgg164
  z146 := Tryz.sizeOf164
  v146 := Tryz.zeroValue164
  g1 := by kernel_rfl }
def Tryz.lays229_ren : Go.Shelf.Ren := ⟨fun | 229 => 18 | n => n, fun | 9 => 9 | 40 => 56 | 31 => 22 | 152 => 90 | 3 => 3 | 0 => 0 | 4 => 4 | 21 => 21 | 154 => 92 | n => n, fun | n => n⟩
theorem Tryz.lays229 : Go.Proofs.Lays.n229 Tryz.prog Tryz.lays229_ren := {
  mixed := by kernel_rfl
  f229 := Tryz.func18.trans (congrArg some (by kernel_rfl))
  t0 := Tryz.underlying0
  a0 := Tryz.isAgg0
  z0 := Tryz.sizeOf0
  v0 := Tryz.zeroValue0
  t3 := Tryz.underlying3
  a3 := Tryz.isAgg3
  z3 := Tryz.sizeOf3
  v3 := Tryz.zeroValue3
  t4 := Tryz.underlying4
  a4 := Tryz.isAgg4
  z4 := Tryz.sizeOf4
  v4 := Tryz.zeroValue4
  t9 := Tryz.underlying9
  a9 := Tryz.isAgg9
  z9 := Tryz.sizeOf9
  v9 := Tryz.zeroValue9
  t21 := Tryz.underlying21
  a21 := Tryz.isAgg21
  z21 := Tryz.sizeOf21
  v21 := Tryz.zeroValue21
  t31 := Tryz.underlying22
  a31 := Tryz.isAgg22
  z31 := Tryz.sizeOf22
  v31 := Tryz.zeroValue22
  t40 := Tryz.underlying56
  a40 := Tryz.isAgg56
  z40 := Tryz.sizeOf56
  v40 := Tryz.zeroValue56
  t152 := Tryz.underlying90
  a152 := Tryz.isAgg90
  z152 := Tryz.sizeOf90
  v152 := Tryz.zeroValue90
  t154 := Tryz.underlying92
  a154 := Tryz.isAgg92
  z154 := Tryz.sizeOf92
  v154 := Tryz.zeroValue92 }
def Tryz.laysC172_ren : Go.Shelf.Ren := ⟨fun | 172 => 66 | 244 => 97 | 245 => 98 | 247 => 135 | 279 => 136 | 280 => 137 | 281 => 138 | 282 => 139 | 287 => 183 | 316 => 141 | 171 => 69 | 205 => 184 | 321 => 210 | 322 => 211 | 243 => 100 | 246 => 140 | 283 => 185 | 284 => 186 | 285 => 187 | 286 => 188 | 129 => 169 | 317 => 212 | 318 => 213 | 319 => 214 | 320 => 215 | 337 => 229 | 338 => 230 | n => n, fun | 9 => 9 | 3 => 3 | 75 => 121 | 76 => 122 | 4 => 4 | 5 => 5 | 167 => 195 | 37 => 42 | 0 => 0 | 85 => 196 | 2 => 2 | 168 => 198 | 53 => 214 | 175 => 227 | 46 => 37 | 210 => 230 | 127 => 93 | 145 => 249 | 143 => 247 | 21 => 21 | 171 => 232 | 173 => 234 | 212 => 251 | 51 => 163 | 20 => 20 | 213 => 252 | 232 => 263 | 233 => 264 | 80 => 57 | n => n, fun | 15 => 2 | 16 => 3 | 17 => 4 | 18 => 5 | 19 => 6 | n => n⟩
theorem Tryz.laysC172 : Go.Proofs.LaysC.n172 Tryz.prog Tryz.laysC172_ren := {
  mixed := by kernel_rfl
  f129 := Tryz.func169.trans (congrArg some (by kernel_rfl))
  f171 := Tryz.func69.trans (congrArg some (by kernel_rfl))
  f172 := Tryz.func66.trans (congrArg some (by kernel_rfl))
  f205 := Tryz.func184.trans (congrArg some (by kernel_rfl))
  f243 := Tryz.func100.trans (congrArg some (by kernel_rfl))
  f244 := Tryz.func97.trans (congrArg some (by kernel_rfl))
  f245 := Tryz.func98.trans (congrArg some (by kernel_rfl))
  f246 := Tryz.func140.trans (congrArg some (by kernel_rfl))
  f247 := Tryz.func135.trans (congrArg some (by kernel_rfl))
  f279 := Tryz.func136.trans (congrArg some (by kernel_rfl))
  f280 := Tryz.func137.trans (congrArg some (by kernel_rfl))
  f281 := Tryz.func138.trans (congrArg some (by kernel_rfl))
  f282 := Tryz.func139.trans (congrArg some (by kernel_rfl))
  f283 := Tryz.func185.trans (congrArg some (by kernel_rfl))
  f284 := Tryz.func186.trans (congrArg some (by kernel_rfl))
  f285 := Tryz.func187.trans (congrArg some (by kernel_rfl))
  f286 := Tryz.func188.trans (congrArg some (by kernel_rfl))
  f287 := Tryz.func183.trans (congrArg some (by kernel_rfl))
  f316 := Tryz.func141.trans (congrArg some (by kernel_rfl))
  f317 := Tryz.func212.trans (congrArg some (by kernel_rfl))
  f318 := Tryz.func213.trans (congrArg some (by kernel_rfl))
  f319 := Tryz.func214.trans (congrArg some (by kernel_rfl))
  f320 := Tryz.func215.trans (congrArg some (by kernel_rfl))
  f321 := Tryz.func210.trans (congrArg some (by kernel_rfl))
  f322 := Tryz.func211.trans (congrArg some (by kernel_rfl))
  f337 := Tryz.func229.trans (congrArg some (by kernel_rfl))
  f338 := Tryz.func230.trans (congrArg some (by kernel_rfl))
  t0 := Tryz.underlying0
  a0 := Tryz.isAgg0
  z0 := Tryz.sizeOf0
  v0 := Tryz.zeroValue0
  t2 := Tryz.underlying2
  a2 := Tryz.isAgg2
  z2 := Tryz.sizeOf2
  v2 := Tryz.zeroValue2
  t3 := Tryz.underlying3
  a3 := Tryz.isAgg3
  z3 := Tryz.sizeOf3
  v3 := Tryz.zeroValue3
  t4 := Tryz.underlying4
  a4 := Tryz.isAgg4
  z4 := Tryz.sizeOf4
  v4 := Tryz.zeroValue4
  t5 := Tryz.underlying5
  a5 := Tryz.isAgg5
  z5 := Tryz.sizeOf5
  v5 := Tryz.zeroValue5
  t9 := Tryz.underlying9
  a9 := Tryz.isAgg9
  z9 := Tryz.sizeOf9
  v9 := Tryz.zeroValue9
  t20 := Tryz.underlying20
  a20 := Tryz.isAgg20
  z20 := Tryz.sizeOf20
  v20 := Tryz.zeroValue20
  t21 := Tryz.underlying21
  a21 := Tryz.isAgg21
  z21 := Tryz.sizeOf21
  v21 := Tryz.zeroValue21
  t37 := Tryz.underlying42
  a37 := Tryz.isAgg42
  z37 := Tryz.sizeOf42
  v37 := Tryz.zeroValue42
  t46 := Tryz.underlying37
  a46 := Tryz.isAgg37
  z46 := Tryz.sizeOf37
  v46 := Tryz.zeroValue37
  t51 := Tryz.underlying163
  a51 := Tryz.isAgg163
  z51 := Tryz.sizeOf163
  v51 := Tryz.zeroValue163
  t53 := Tryz.underlying214
  a53 := Tryz.isAgg214
  z53 := Tryz.sizeOf214
  v53 := Tryz.zeroValue214
  t75 := Tryz.underlying121
  a75 := Tryz.isAgg121
  z75 := Tryz.sizeOf121
  v75 := Tryz.zeroValue121
  t76 := Tryz.underlying122
  a76 := Tryz.isAgg122
  z76 := Tryz.sizeOf122
  v76 := Tryz.zeroValue122
  t85 := Tryz.underlying196
  a85 := Tryz.isAgg196
  z85 := Tryz.sizeOf196
  v85 := Tryz.zeroValue196
  t127 := Tryz.underlying93
  a127 := Tryz.isAgg93
  z127 := Tryz.sizeOf93
  v127 := Tryz.zeroValue93
  t143 := Tryz.underlying247
  a143 := Tryz.isAgg247
  z143 := Tryz.sizeOf247
  v143 := Tryz.zeroValue247
  t145 := Tryz.underlying249
  a145 := Tryz.isAgg249
  z145 := Tryz.sizeOf249
  v145 := Tryz.zeroValue249
  t167 := Tryz.underlying195
  a167 := Tryz.isAgg195
  z167 := Tryz.sizeOf195
  v167 := Tryz.zeroValue195
  t168 := Tryz.underlying198
  a168 := Tryz.isAgg198
  z168 := Tryz.sizeOf198
  v168 := Tryz.zeroValue198
  t171 := Tryz.underlying232
  a171 := Tryz.isAgg232
  z171 := Tryz.sizeOf232
  v171 := Tryz.zeroValue232
  t173 := Tryz.underlying234
  a173 := Tryz.isAgg234
  z173 := Tryz.sizeOf234
  v173 := Tryz.zeroValue234
  t175 := Tryz.underlying227
  a175 := Tryz.isAgg227
  z175 := Tryz.sizeOf227
  v175 := Tryz.zeroValue227
  t210 := Tryz.underlying230
  a210 := Tryz.isAgg230
  z210 := Tryz.sizeOf230
  v210 := Tryz.zeroValue230
  t212 := Tryz.underlying251
  a212 := Tryz.isAgg251
  z212 := Tryz.sizeOf251
  v212 := Tryz.zeroValue251
  t213 := Tryz.underlying252
  a213 := Tryz.isAgg252
  z213 := Tryz.sizeOf252
  t232 := Tryz.underlying263
  a232 := Tryz.isAgg263
  z232 := Tryz.sizeOf263
  v232 := Tryz.zeroValue263
  t233 := Tryz.underlying264
  a233 := Tryz.isAgg264
  z233 := Tryz.sizeOf264
  v233 := Tryz.zeroValue264
  g15 := by kernel_rfl
  g16 := by kernel_rfl
  g17 := by kernel_rfl
  g18 := by kernel_rfl
  g19 := by kernel_rfl
  t80 := Tryz.underlying57
  a80 := Tryz.isAgg57
  z80 := Tryz.sizeOf57
  v80 := Tryz.zeroValue57
  i0 := by kernel_rfl
  i2 := by kernel_rfl
  i3 := by kernel_rfl
  i4 := by kernel_rfl
  i5 := by kernel_rfl
  i9 := by kernel_rfl
  i20 := by kernel_rfl
  i21 := by kernel_rfl
  i37 := by kernel_rfl
  i46 := by kernel_rfl
  i51 := by kernel_rfl
  i53 := by kernel_rfl
  i75 := by kernel_rfl
  i76 := by kernel_rfl
  i80 := by kernel_rfl
  i85 := by kernel_rfl
  i127 := by kernel_rfl
  i143 := by kernel_rfl
  i145 := by kernel_rfl
  i167 := by kernel_rfl
  i168 := by kernel_rfl
  i171 := by kernel_rfl
  i173 := by kernel_rfl
  i175 := by kernel_rfl
  i210 := by kernel_rfl
  i212 := by kernel_rfl
  i232 := by kernel_rfl
  i233 := by kernel_rfl
  m15 := by kernel_rfl
  m16 := by kernel_rfl
  m17 := by kernel_rfl
  m18 := by kernel_rfl
  m19 := by kernel_rfl
  c0 := by kernel_rfl
  c2 := by kernel_rfl
  c3 := by kernel_rfl
  c4 := by kernel_rfl
  c5 := by kernel_rfl
  c9 := by kernel_rfl
  c20 := by kernel_rfl
  c21 := by kernel_rfl
  c37 := by kernel_rfl
  c46 := by kernel_rfl
  c51 := by kernel_rfl
  c53 := by kernel_rfl
  c75 := by kernel_rfl
  c76 := by kernel_rfl
  c80 := by kernel_rfl
  c85 := by kernel_rfl
  c127 := by kernel_rfl
  c143 := by kernel_rfl
  c145 := by kernel_rfl
  c167 := by kernel_rfl
  c168 := by kernel_rfl
  c171 := by kernel_rfl
  c173 := by kernel_rfl
  c175 := by kernel_rfl
  c210 := by kernel_rfl
  c212 := by kernel_rfl
  c213 := by kernel_rfl
  c232 := by kernel_rfl
  c233 := by kernel_rfl }
def Tryz.laysPu25_ren : Go.Shelf.Ren := ⟨fun | 25 => 141 | n => n, fun | 9 => 9 | 3 => 3 | 4 => 4 | 37 => 42 | 0 => 0 | 47 => 93 | 5 => 5 | n => n, fun | n => n⟩
theorem Tryz.laysPu25 : Go.Proofs.LaysPu.n25 Tryz.prog Tryz.laysPu25_ren := {
  mixed := by kernel_rfl
  f25 := Tryz.func141.trans (congrArg some (by kernel_rfl))
  t0 := Tryz.underlying0
  a0 := Tryz.isAgg0
  z0 := Tryz.sizeOf0
  v0 := Tryz.zeroValue0
  i0 := by kernel_rfl
  t3 := Tryz.underlying3
  a3 := Tryz.isAgg3
  z3 := Tryz.sizeOf3
  v3 := Tryz.zeroValue3
  i3 := by kernel_rfl
  t4 := Tryz.underlying4
  a4 := Tryz.isAgg4
  z4 := Tryz.sizeOf4
  v4 := Tryz.zeroValue4
  i4 := by kernel_rfl
  t5 := Tryz.underlying5
  a5 := Tryz.isAgg5
  z5 := Tryz.sizeOf5
  v5 := Tryz.zeroValue5
  i5 := by kernel_rfl
  t9 := Tryz.underlying9
  a9 := Tryz.isAgg9
  z9 := Tryz.sizeOf9
  v9 := Tryz.zeroValue9
  i9 := by kernel_rfl
  t37 := Tryz.underlying42
  a37 := Tryz.isAgg42
  z37 := Tryz.sizeOf42
  v37 := Tryz.zeroValue42
  i37 := by kernel_rfl
  t47 := Tryz.underlying93
  a47 := Tryz.isAgg93
  z47 := Tryz.sizeOf93
  v47 := Tryz.zeroValue93
  i47 := by kernel_rfl }
end Go.Proofs
namespace Go.Proofs.YtfpfpnhpbnnmfadGreatDoor
open Go.RowKit
theorem contains_any (s : ByteArray) (c : UInt8) (w : World) :
    Calls Tryz.prog 16 #[.string s, .string ⟨#[c]⟩] w fun e w' => e = .returned (.bool (decide (0 ≤ Lib.indexByte s.data.toList c))) ∧ w' = w := Any.strings_Contains_one Tryz.lays144 s c w
theorem fields_any (g : Nat) (lb : Array Value) (eg : ∀ args w, (callFunc g args).run Tryz.prog w = .ok (.enter g args) w) (p : Nat → Bool) (s : ByteArray) (w : World) (hs : s.size ≤ 4294967296) (hp : PredAtRunes Tryz.prog g lb p w) :
    Calls Tryz.prog 18 #[.string s, .func (.func g) #[] lb] w fun e w' => ∃ A, e = .returned (.slice (some ⟨A, 0, none⟩) (Lib.goFieldsP p s).length (Lib.goFieldsP p s).length) ∧ w.heap.size ≤ A ∧
      w'.ownsRow w.heap.size 9 1 (.slice (some ⟨A, 0, none⟩) (Lib.goFieldsP p s).length (Lib.goFieldsP p s).length) (Lib.goFieldsP p s).length ((Lib.goFieldsP p s).map Value.string) ∧ Below w.heap.size w w' :=
  Any.strings_FieldsFunc_runes Tryz.lays229 g lb eg p s w hs hp (by kernel_rfl) (by kernel_rfl)
theorem atoi_ok (s : ByteArray) (hs : s.size ≤ 100000) (v : Int) (h : Lib.atoiAll s.data.toList = .ok v) (w : World) :
    Calls Tryz.prog 66 #[.string s] w fun e w' => e = .returned (.tuple #[.int .i64 v, .nilIface]) ∧ Below w.heap.size w w' := by
  refine (Any.strconv_Atoi_ok Tryz.laysC172 s (by omega) v h w).mono fun e w' ⟨he, hw⟩ => ⟨he, ?_⟩
  rcases hw with rfl | ⟨t, rfl⟩
  · exact Below.refl _ _
  · exact Lib.bytesWorld_below _ _ _
/-- the library's two errors lie in the world -/
def Ers (w : World) : Prop := (∃ ev, w.cell? ⟨2, 0, none⟩ = some ev ∧ (ev = .nilIface ∨ ∃ te pe, ev = .iface te pe)) ∧ (∃ ev, w.cell? ⟨3, 0, none⟩ = some ev ∧ (ev = .nilIface ∨ ∃ te pe, ev = .iface te pe))
theorem atoi_no (s : ByteArray) (hs : s.size ≤ 100000) (h : ∀ v, Lib.atoiAll s.data.toList ≠ .ok v) (w : World) (he : Ers w) :
    Calls Tryz.prog 66 #[.string s] w fun e w' => (∃ n t a, e = .returned (.tuple #[.int .i64 n, .iface t (.pointer (some a))])) ∧ Below w.heap.size w w' := by
  obtain ⟨⟨e1, c1, k1⟩, ⟨e2, c2, k2⟩⟩ := he
  rcases hc : Lib.atoiAll s.data.toList with v | _ | _
  · exact absurd hc (h v)
  · exact (Any.strconv_Atoi_syntax Tryz.laysC172 s (by omega) hc e1 w c1 k1).mono fun e w' ⟨N, he, _, _, hb⟩ => ⟨⟨_, _, _, he⟩, hb⟩
  · exact (Any.strconv_Atoi_range Tryz.laysC172 s (by omega) hc e2 w c2 k2).mono fun e w' ⟨N, he, _, _, hb⟩ => ⟨⟨_, _, _, he⟩, hb⟩
set_option maxHeartbeats 400000 in
theorem clone_any (s : ByteArray) (hs : s.size ≤ 100000) (w : World) :
    Calls Tryz.prog 105 #[.string s] w fun e w' => e = .returned (.string s) ∧ Below w.heap.size w w' := by
  have D := AnyPu.stringslite_Clone Tryz.laysPu25 s w (by omega)
  go_enter Tryz.func105, Tryz.ntmps105
  go_wp2_with (go_at_call 141; refine D.mono ?_)
  rintro e w1 ⟨rfl, b1⟩
  go_wp2_with fail
  go_ret
  exact ⟨rfl, b1⟩
end Go.Proofs.YtfpfpnhpbnnmfadGreatDoor
set_option linter.unusedVariables false
namespace Go.Proofs.YtfpfpnhpbnnmfadGreatDoor
open Go.RowKit
open Idl (Stp chk stpA strs)
/-- the table of lines lies in the world -/
def Frs (W : World) : Prop := ∃ g o c, W.cell? ⟨0, 0, none⟩ = some (.slice (some ⟨g, o, none⟩) 16 c) ∧ ∀ k f, Dsk.frms[k]? = some f → W.cell? ⟨g, o + k * 3, none⟩ = some (.string f.word) ∧ W.cell? ⟨g, o + k * 3 + 1, none⟩ = some (.string f.places) ∧ W.cell? ⟨g, o + k * 3 + 2, none⟩ = some (.int .i64 f.kind)
/-- all that lies in the world -/
structure Tabs (W : World) : Prop where
  tab : Tab W
  frs : Frs W
  ers : Ers W
theorem cell_below {w W : World} (hb : Below w.heap.size w W) {a : Addr} {v : Value} (h : w.cell? a = some v) : W.cell? a = some v := (hb.cell (Lib.lt_of_cell h)).trans h
theorem Tabs.at {w W : World} (h : Tabs w) (hb : Below w.heap.size w W) : Tabs W := by
  refine ⟨tab_block h.tab (hb.block _ (tab_lt h.tab)), ?_, ?_⟩
  · obtain ⟨g, o, c, h1, h2⟩ := h.frs
    exact ⟨g, o, c, cell_below hb h1, fun k f hf => ⟨cell_below hb (h2 k f hf).1, cell_below hb (h2 k f hf).2.1, cell_below hb (h2 k f hf).2.2⟩⟩
  · obtain ⟨⟨e1, c1, k1⟩, ⟨e2, c2, k2⟩⟩ := h.ers
    exact ⟨⟨e1, cell_below hb c1, k1⟩, ⟨e2, cell_below hb c2, k2⟩⟩
set_option maxHeartbeats 600000 in
set_option maxRecDepth 100000 in
theorem number_any (s : ByteArray) (hs : s.size ≤ 100000) (W : World) (tb : Tabs W) :
    Calls Tryz.prog 104 #[.string s] W fun e w' => e = .returned (.int .i64 (Dsk.num s)) ∧ Below W.heap.size W w' := by
  by_cases hk : ∃ v, Lib.atoiAll s.data.toList = .ok v
  case neg =>
    have EN := hide (show Dsk.num s = -1 by
      unfold Dsk.num
      split
      · rename_i v h; exact absurd ⟨v, h⟩ hk
      · rfl)
    have D := hide (atoi_no s hs (fun v h => hk ⟨v, h⟩) W tb.ers)
    clear hk tb
    go_enter Tryz.func104, Tryz.ntmps104
    go_wp2_with fail
    refine (unhide D).mono ?_
    rintro e w1 ⟨⟨n, t, a, rfl⟩, b1⟩
    clear D
    go_wp2_with fail
    go_ret
    exact ⟨by rw [unhide EN]; rfl, b1⟩
  case pos =>
    obtain ⟨v, hv⟩ := hk
    have D := hide (atoi_ok s hs v hv W)
    have vb := Lib.atoiAll_bounds hv
    by_cases h0 : v < 0
    case pos =>
      have d0 : decide (v < 0) = true := by simpa using h0
      have EN := hide (show Dsk.num s = -1 by unfold Dsk.num; rw [hv]; exact if_pos h0)
      clear hv tb h0
      go_enter Tryz.func104, Tryz.ntmps104
      go_wp2_with fail
      refine (unhide D).mono ?_
      rintro e w1 ⟨rfl, b1⟩
      clear D
      go_wp2_with fail
      go_ret
      exact ⟨by rw [unhide EN]; rfl, b1⟩
    case neg =>
      have d0 : decide (v < 0) = false := by simpa using h0
      have I := hide (fun V (hb : Below W.heap.size W V) => itoa_any v vb.1 vb.2 V (tb.at hb).tab)
      obtain ⟨z, hz⟩ : ∃ z : List UInt8, z = Lib.itoa v := ⟨_, rfl⟩
      rw [← hz] at I
      by_cases he : z = s.data.toList
      case pos =>
        have EN := hide (show Dsk.num s = v by unfold Dsk.num; rw [hv]; simp only; rw [if_neg h0, if_pos (by rw [← hz]; exact he)])
        have ES : (⟨z.toArray⟩ : ByteArray) = s := by rw [he]
        rw [ES] at I
        clear hv tb h0 hz he ES z
        go_enter Tryz.func104, Tryz.ntmps104
        go_wp2_with fail
        refine (unhide D).mono ?_
        rintro e w1 ⟨rfl, b1⟩
        clear D
        go_wp2_with fail
        refine (unhide I _ b1).mono ?_
        rintro e w2 ⟨rfl, b2⟩
        have b3 := b1.trans (b2.mono b1.size)
        clear b2 I
        go_wp2_with fail
        go_ret
        exact ⟨by rw [unhide EN]; rfl, b3⟩
      case neg =>
        have EN := hide (show Dsk.num s = -1 by unfold Dsk.num; rw [hv]; simp only; rw [if_neg h0, if_neg (by rw [← hz]; exact he)])
        have ES : (z == s.toList) = false := by
          rw [beq_eq_false_iff_ne]; intro z2; exact he (by rw [z2, ByteArray.toList_eq])
        clear hv tb h0 hz he
        go_enter Tryz.func104, Tryz.ntmps104
        go_wp2_with fail
        refine (unhide D).mono ?_
        rintro e w1 ⟨rfl, b1⟩
        clear D
        go_wp2_with fail
        refine (unhide I _ b1).mono ?_
        rintro e w2 ⟨rfl, b2⟩
        have b3 := b1.trans (b2.mono b1.size)
        clear b2 I
        go_wp2_with fail
        go_ret
        exact ⟨by rw [unhide EN]; rfl, b3⟩
theorem fbool_any (b : Bool) (w : World) : Calls Tryz.prog 56 #[.bool b] w fun e w' => e = .returned (.string ⟨(Dsk.yes b).toArray⟩) ∧ w' = w := by
  cases b
  all_goals
    go_enter Tryz.func56, Tryz.ntmps56
    go_wp2
    go_ret
    exact ⟨rfl, rfl⟩
theorem isBlank_any (x : Nat) (w : World) : Calls Tryz.prog 19 #[.int .i32 (x : Int)] w fun e w' => e = .returned (.bool (x == 32)) ∧ w' = w := by
  have E : ((x : Int) == 32) = (x == 32) := by
    rw [Bool.eq_iff_iff]; simp; omega
  go_enter Tryz.func19, Tryz.ntmps19
  go_wp2
  go_ret
  exact ⟨by first | rfl | (rw [E]) | simp [E], rfl⟩
/-- the words of a line -/
theorem words_any (s : ByteArray) (hs : s.size ≤ 100000) (w : World) :
    Calls Tryz.prog 18 #[.string s, .func (.func 19) #[] #[]] w fun e w' => ∃ A, e = .returned (.slice (some ⟨A, 0, none⟩) (Dsk.words s).length (Dsk.words s).length) ∧ w.heap.size ≤ A ∧
      w'.ownsRow w.heap.size 9 1 (.slice (some ⟨A, 0, none⟩) (Dsk.words s).length (Dsk.words s).length) (Dsk.words s).length (strs (Dsk.words s)) ∧ Below w.heap.size w w' :=
  fields_any 19 #[] (enters_of Tryz.func19 (by kernel_rfl) rfl) (fun r => r == 32) s w (by omega) (fun W x _ _ => (isBlank_any x W).mono fun e w' ⟨he, hw⟩ => ⟨he, 0, hw⟩)
def decs (ns : List Int) : List ByteArray := ns.map fun n => ⟨(Lib.itoa n).toArray⟩
/-- the words of numbers, when i of them are laid -/
def decRow (ns : List Int) (i : Nat) : List Value := strs (decs (ns.take i)) ++ List.replicate (ns.length - i) (.string ⟨#[]⟩)
theorem decRow_zero (ns : List Int) : decRow ns 0 = List.replicate ns.length (.string ⟨#[]⟩) := by simp [decRow, decs, strs]
theorem decRow_all (ns : List Int) : decRow ns ns.length = strs (decs ns) := by simp [decRow]
theorem decRow_set (ns : List Int) (i : Nat) (n : Int) (h : ns[i]? = some n) : (decRow ns i).set i (.string ⟨(Lib.itoa n).toArray⟩) = decRow ns (i + 1) := by
  have hi : i < ns.length := (List.getElem?_eq_some_iff.1 h).1
  have ht : ns.take (i + 1) = ns.take i ++ [n] := by rw [List.take_add_one, h]; rfl
  have hr : List.replicate (ns.length - i) (Value.string ⟨#[]⟩) = Value.string ⟨#[]⟩ :: List.replicate (ns.length - (i + 1)) (Value.string ⟨#[]⟩) := by
    rw [show ns.length - i = (ns.length - (i + 1)) + 1 by omega, List.replicate_succ]
  have hl : (strs (decs (ns.take i))).length = i := by simp [strs, decs]; omega
  unfold decRow
  rw [ht, hr]
  have hm := Lib.set_mid (strs (decs (ns.take i))) (Value.string ⟨#[]⟩) (.string ⟨(Lib.itoa n).toArray⟩) (List.replicate (ns.length - (i + 1)) (Value.string ⟨#[]⟩))
  rw [hl] at hm
  rw [hm]
  simp [strs, decs]
def ints (ns : List Int) : List Value := ns.map (.int .i64)
theorem str_info9 : (Tryz.prog.info? 9).map (fun i => (i.zero, i.size, i.bytes)) = some (some (.string ⟨#[]⟩), 1, 16) := by kernel_rfl
set_option maxHeartbeats 1000000 in
set_option maxRecDepth 100000 in
theorem decimals_any {B : Nat} (ns : List Int) (hN : ns.length ≤ 1000) (hR : ∀ n ∈ ns, I64 n) (v0 : Value) (W : World) (h0 : W.ownsRow B 3 1 v0 ns.length (ints ns)) (hB : B ≤ W.heap.size) (tb : Tabs W) :
    Calls Tryz.prog 63 #[v0] W fun e w' => ∃ v, e = .returned v ∧ w'.ownsRow W.heap.size 9 1 v ns.length (strs (decs ns)) ∧ Below W.heap.size W w' := by
  obtain ⟨i9, hi9', hz90, hz91, hz92⟩ := info_parts str_info9
  obtain ⟨W5, hmk5, hown5, hgr5⟩ := run_make_full (P := Tryz.prog) W W.heap.size 22 9 i9 _ 1 Tryz.underlying22 hi9' hz90 hz91 .i64 .i64 ns.length (by rw [hz92]; omega) (by unfold maxLen; omega) (Nat.le_refl _)
  have hb5 : Below W.heap.size W W5 := (Below.refl _ W).grown hgr5 (Nat.le_refl _) (fun k hk => by cases hk)
  rw [show (Value.string ⟨#[]⟩).cells = #[Value.string ⟨#[]⟩] from rfl, Nat.mul_one, toList_madeCells_one, ← decRow_zero ns] at hown5
  have OW := hide hown5
  have BW := hide hb5
  have TB := hide tb
  have RR := hide hR
  have form : ∃ a c, v0 = .slice a ns.length c ∧ ∀ (i : Nat) n, ns[i]? = some n → ∃ g, a = some ⟨g, 0, none⟩ ∧ g < W.heap.size ∧ W.cell? ⟨g, i, none⟩ = some (.int .i64 n) := by
    rcases h0.2 with ⟨hv, hz⟩ | ⟨g, cap, cur, hv, _, hg, _⟩
    · exact ⟨none, 0, by rw [hv, hz], fun i n h => by have := (List.getElem?_eq_some_iff.1 h).1; omega⟩
    · refine ⟨some ⟨g, 0, none⟩, cap, hv, fun i n h => ⟨g, rfl, (Array.getElem?_eq_some_iff.1 hg).1, ?_⟩⟩
      have hlt := (List.getElem?_eq_some_iff.1 h).1
      rw [hv] at h0
      rw [h0.cellAt i (by omega)]
      simp [ints, h]
  obtain ⟨a, c, rfl, hc⟩ := form
  have HC := hide hc
  clear h0 hown5 hb5 tb hR hgr5 hc
  go_enter Tryz.func63, Tryz.ntmps63
  go_wp2_with fail
  go_loopw [11] (fun s wr => ∃ i : Nat, i ≤ ns.length ∧ s = .int .i64 i ∧ Hid (wr.ownsRow W.heap.size 9 1 (.slice (some ⟨W.heap.size, 0, none⟩) ns.length ns.length) ns.length (decRow ns i)) ∧ Hid (Below W.heap.size W wr)) (fun s _ => ns.length - (intOf s).toNat)
  case atStart => exact ⟨0, Nat.zero_le _, rfl, OW, BW⟩
  case round =>
    clear OW BW hmk5
    obtain ⟨i, hi, rfl, OW, BW⟩ := hrel
    by_cases hlt : i < ns.length
    case pos =>
      have hz : (i : Int) < (ns.length : Int) := by omega
      obtain ⟨n, hn⟩ : ∃ n, ns[i]? = some n := ⟨_, List.getElem?_eq_getElem hlt⟩
      obtain ⟨g, rfl, hg, hcell⟩ := unhide HC i n hn
      have hcW : wr.cell? ⟨g, i, none⟩ = some (.int .i64 n) := cell_below (unhide BW) hcell
      have hr := unhide RR n (List.mem_of_getElem? hn)
      have I := hide (itoa_any n hr.1 hr.2 wr ((unhide TB).at (unhide BW)).tab)
      have NS := hide (decRow_set ns i n hn)
      clear hcell hr
      go_wp2_with fail
      refine (unhide I).mono ?_
      rintro e w2 ⟨rfl, b2⟩
      have O2 := hide (Idl.ownsRow_of_block (unhide OW) (fun k hk => b2.block k ((unhide OW).lt k hk).2))
      have B2 := hide ((unhide BW).trans (b2.mono (unhide BW).size))
      obtain ⟨old, hold⟩ : ∃ old, (decRow ns i)[i]? = some old := ⟨_, List.getElem?_eq_getElem (by have := (unhide O2).1; omega)⟩
      have hcA := ((unhide O2).cellAt i (by omega)).trans hold
      have hfA := (unhide O2).frozenAt i
      have ST := hide ((unhide O2).stored i (.string ⟨(Lib.itoa n).toArray⟩))
      rw [unhide NS] at ST
      clear b2 I hold NS hcW
      go_wp2_with fail
      go_roundw
      case rel => exact ⟨i + 1, by omega, by go_num, hide (unhide ST).1, hide ((unhide B2).grown (unhide ST).2 (unhide B2).size (fun k hk => by cases hk; exact Nat.le_refl _))⟩
      case measure => simp [intOf]; omega
    case neg =>
      have hz : ¬ (i : Int) < (ns.length : Int) := by omega
      obtain rfl : i = ns.length := by omega
      go_wp2_with fail
      go_ret
      exact ⟨_, rfl, by rw [← decRow_all]; exact unhide OW, unhide BW⟩
end Go.Proofs.YtfpfpnhpbnnmfadGreatDoor
