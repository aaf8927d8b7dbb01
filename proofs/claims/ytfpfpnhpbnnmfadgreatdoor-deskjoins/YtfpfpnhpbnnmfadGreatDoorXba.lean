/-
  The walk of ideal.World.List.
-/
import Derived.Test.YtfpfpnhpbnnmfadGreatDoorXap
import Derived.Deep.LoopGhost
import Derived.Shelf.Abstract
import Derived.Maps.AppendAt
import Derived.Test.YtfpfpnhpbnnmfadGreatDoorXah
import Derived.Test.YtfpfpnhpbnnmfadGreatDoorXaz
import Derived.Shelf.GgSortFunc.Small
import Derived.Shelf.GgSortFunc.Tiny
import Derived.Ground.GgsProg
import Derived.Sort.LotA
namespace Go.Proofs.YtfpfpnhpbnnmfadGreatDoor
open Go.RowKit
namespace Idl
theorem str_info : ∃ i, Tryz.prog.info? 9 = some i ∧ i.zero = some (.string ⟨#[]⟩) ∧ i.size = 1 ∧ i.bytes = 16 := by
  have h : (Tryz.prog.info? 9).map (fun i => (i.zero, i.size, i.bytes)) = some (some (.string ⟨#[]⟩), 1, 16) := by kernel_rfl
  cases hq : Tryz.prog.info? 9 with
  | none => rw [hq] at h; cases h
  | some i =>
    rw [hq] at h
    simp only [Option.map_some, Option.some.injEq, Prod.mk.injEq] at h
    exact ⟨i, rfl, h.1, h.2.1, h.2.2⟩
theorem one_new (W : World) (x : Value) (t : TypeId) (k : Nat) (hk : k = W.heap.size) : ∀ j u, [x][j]? = some u → (W.alloc (.cells #[x] t)).cell? ((⟨k, 0, none⟩ : Addr).add j) = some u := fun j u hj => by
  cases j with
  | zero =>
    rw [Addr.add_lit, World.cell?_alloc_at _ _ _ _ hk]
    simpa using hj
  | succ j => simp at hj
theorem one_str (s : ByteArray) : ∀ u ∈ [Value.string s], u.oneCell' = true := fun u hu => by
  rcases List.mem_cons.1 hu with rfl | hu
  · rfl
  · cases hu
def strs (l : List ByteArray) : List Value := l.map .string
end Idl
end Go.Proofs.YtfpfpnhpbnnmfadGreatDoor
namespace Go.Proofs.YtfpfpnhpbnnmfadGreatDoor
namespace Idl
/-! the list of names: each put to its place -/
def plN (l : List ByteArray) (s : ByteArray) : Nat := (l.takeWhile fun e => lt e s).length
def insN (l : List ByteArray) (s : ByteArray) : List ByteArray := l.take (plN l s) ++ s :: l.drop (plN l s)
def RiseN (l : List ByteArray) : Prop := l.Pairwise fun a b => lt a b = true
theorem plN_split (l : List ByteArray) (s : ByteArray) : l.take (plN l s) = l.takeWhile (fun e => lt e s) ∧ l.drop (plN l s) = l.dropWhile (fun e => lt e s) := by
  have h1 : (l.takeWhile (fun e => lt e s) ++ l.dropWhile (fun e => lt e s)).take (l.takeWhile fun e => lt e s).length = l.takeWhile (fun e => lt e s) := List.take_left
  have h2 : (l.takeWhile (fun e => lt e s) ++ l.dropWhile (fun e => lt e s)).drop (l.takeWhile fun e => lt e s).length = l.dropWhile (fun e => lt e s) := List.drop_left
  rw [List.takeWhile_append_dropWhile] at h1 h2
  exact ⟨h1, h2⟩
theorem mem_insN {l : List ByteArray} {s t : ByteArray} : t ∈ insN l s ↔ t = s ∨ t ∈ l := by
  unfold insN
  rw [List.mem_append, List.mem_cons]
  have h : t ∈ l ↔ t ∈ l.take (plN l s) ∨ t ∈ l.drop (plN l s) := by
    conv => lhs; rw [← List.take_append_drop (plN l s) l]
    exact List.mem_append
  rw [h]
  constructor
  · rintro (z | z | z)
    · exact .inr (.inl z)
    · exact .inl z
    · exact .inr (.inr z)
  · rintro (z | z | z)
    · exact .inr (.inl z)
    · exact .inl z
    · exact .inr (.inr z)
theorem insN_rise {l : List ByteArray} (h : RiseN l) {s : ByteArray} (hs : s ∉ l) : RiseN (insN l s) := by
  unfold insN
  obtain ⟨e1, e2⟩ := plN_split l s
  rw [e1, e2]
  have hw : RiseN (l.takeWhile (fun e => lt e s) ++ l.dropWhile (fun e => lt e s)) := by rw [List.takeWhile_append_dropWhile]; exact h
  unfold RiseN at hw ⊢
  rw [List.pairwise_append] at hw
  obtain ⟨h1, h2, h3⟩ := hw
  have low : ∀ a ∈ l.takeWhile (fun e => lt e s), lt a s = true := fun a ha => by
    have := List.all_takeWhile (p := fun e => lt e s) (l := l)
    rw [List.all_eq_true] at this
    exact this a ha
  have high : ∀ b ∈ l.dropWhile (fun e => lt e s), lt s b = true := by
    cases hd : l.dropWhile (fun e => lt e s) with
    | nil => intro b hb; cases hb
    | cons a r =>
      rw [hd] at h2
      rw [List.pairwise_cons] at h2
      have hmem : a ∈ l := (List.dropWhile_sublist (p := fun e => lt e s) (l := l)).subset (by rw [hd]; exact List.mem_cons_self ..)
      have ha : lt a s = false := by
        have := List.head?_dropWhile_not (fun e => lt e s) l
        rw [hd] at this
        simpa using this
      have hsa : lt s a = true := by
        cases e : lt s a
        · exact absurd (lt_tri ha e ▸ hmem) hs
        · rfl
      intro b hb
      rcases List.mem_cons.1 hb with rfl | hb
      · exact hsa
      · exact lt_trans hsa (h2.1 b hb)
  rw [List.pairwise_append, List.pairwise_cons]
  refine ⟨h1, ⟨high, h2⟩, fun a ha b hb => ?_⟩
  rcases List.mem_cons.1 hb with rfl | hb
  · exact low a ha
  · exact lt_trans (low a ha) (high b hb)
theorem riseN_ext : ∀ {l k : List ByteArray}, RiseN l → RiseN k → (∀ s, s ∈ l ↔ s ∈ k) → l = k
  | [], [], _, _, _ => rfl
  | [], b :: k, _, _, h => by have := (h b).2 (List.mem_cons_self ..); cases this
  | a :: l, [], _, _, h => by have := (h a).1 (List.mem_cons_self ..); cases this
  | a :: l, b :: k, hl, hk, h => by
    unfold RiseN at hl hk
    rw [List.pairwise_cons] at hl hk
    have hab : a = b := by
      rcases List.mem_cons.1 ((h a).1 (List.mem_cons_self ..)) with e | e
      · exact e
      · rcases List.mem_cons.1 ((h b).2 (List.mem_cons_self ..)) with e' | e'
        · exact e'.symm
        · have h1 := hk.1 a e
          have h2 := hl.1 b e'
          rw [lt_asymm h1] at h2; cases h2
    subst hab
    congr 1
    refine riseN_ext hl.2 hk.2 fun s => ⟨fun hs => ?_, fun hs => ?_⟩
    · rcases List.mem_cons.1 ((h s).1 (List.mem_cons_of_mem _ hs)) with e | e
      · subst e
        have := hl.1 s hs
        rw [lt_irrefl] at this; cases this
      · exact e
    · rcases List.mem_cons.1 ((h s).2 (List.mem_cons_of_mem _ hs)) with e | e
      · subst e
        have := hk.1 s hs
        rw [lt_irrefl] at this; cases this
      · exact e
end Idl
end Go.Proofs.YtfpfpnhpbnnmfadGreatDoor
namespace Go.Proofs.YtfpfpnhpbnnmfadGreatDoor
open Go.RowKit
open Idl (Stp chk stpA strs)
namespace Img
/-- the names of a directory's first n slots -/
def rawN (m : Img) (d : Nat) : Nat → List ByteArray
  | 0 => []
  | n + 1 => rawN m d n ++ (if m.named d n then [m.name d n] else [])
theorem rawN_len (m : Img) (d : Nat) : ∀ n, (rawN m d n).length ≤ n
  | 0 => Nat.le_refl _
  | n + 1 => by
    have := rawN_len m d n
    unfold rawN
    rw [List.length_append]
    split <;> simp <;> omega
theorem rawN_mem {m : Img} {d : Nat} {s : ByteArray} : ∀ {n}, s ∈ rawN m d n ↔ ∃ t, t < n ∧ m.named d t = true ∧ m.name d t = s
  | 0 => by simp [rawN]
  | n + 1 => by
    unfold rawN
    rw [List.mem_append, rawN_mem (n := n)]
    constructor
    · rintro (⟨t, h1, h2, h3⟩ | h)
      · exact ⟨t, by omega, h2, h3⟩
      · by_cases hn : m.named d n = true
        · rw [if_pos hn, List.mem_singleton] at h
          exact ⟨n, by omega, hn, h.symm⟩
        · rw [if_neg hn] at h; cases h
    · rintro ⟨t, h1, h2, h3⟩
      by_cases e : t = n
      · subst e; right; rw [if_pos h2, List.mem_singleton]; exact h3.symm
      · left; exact ⟨t, by omega, h2, h3⟩
theorem rawN_nodup {m : Img} (hm : m.check = 0) {d : Nat} (hd : d < 3) : ∀ {n}, n ≤ 4 → (rawN m d n).Nodup
  | 0, _ => by simp [rawN]
  | n + 1, h => by
    unfold rawN
    rw [List.nodup_append]
    refine ⟨rawN_nodup hm hd (by omega), ?_, fun a ha b hb => ?_⟩
    · split <;> simp
    · by_cases hn : m.named d n = true
      · rw [if_pos hn, List.mem_singleton] at hb
        subst hb
        obtain ⟨t, h1, h2, h3⟩ := rawN_mem.1 ha
        intro e
        exact names_apart hm hd (s := n) (t := t) (by omega) (by omega) (by omega) hn (by rw [h3, e])
      · rw [if_neg hn] at hb; cases hb
end Img
theorem wpList_val {P : Program} {ops : Array Oper} {rest : List Oper} {o : Oper} {a : Act} {w : World} {Q : Exit → Act → World → Prop} {v : Value} (hgd : o.guard = none) (hr : (execOp a.eval o).run P w = .ok (.value v) w)
    (h : wpList P ops Q rest (a.put o.dst v) w) : wpList P ops Q (o :: rest) a w :=
  wpList_plain hgd fun _ hK => by
    unfold Oper.wp
    rw [hr]
    exact hK _ _ h
set_option maxHeartbeats 1000000 in
/-- the closure that is handed to the sort: it reads the boxed slice and two of the row's cells -/
theorem less_strs (blk off c Bs size : Nat) (W : World) (G : Nat → ByteArray) (hs : W.cell? ⟨Bs, 0, none⟩ = some (.slice (some ⟨blk, off, none⟩) size c)) (hc : ∀ t, t < size → W.cell? ⟨blk, off + t, none⟩ = some (.string (G t))) (i j : Nat) (hi : i < size) (hj : j < size) :
    Calls Tryz.prog 85 #[.int .i64 i, .int .i64 j, .pointer (some ⟨Bs, 0, none⟩)] W fun e w' => e = .returned (.bool (Idl.lt (G i) (G j))) ∧ ∃ q, w' = W.drewN q := by
  have ci := hc i hi
  have cj := hc j hj
  have iz : (i : Int) < (size : Int) := by omega
  have jz : (j : Int) < (size : Int) := by omega
  generalize G i = gi at ci ⊢
  generalize G j = gj at cj ⊢
  clear hc
  go_enter Tryz.func85, Tryz.ntmps85
  go_wp2
  try (go_quiet (fail); go_wp2)
  go_ret
  exact ⟨rfl, by first | exact ⟨0, rfl⟩ | exact ⟨_, rfl⟩⟩
end Go.Proofs.YtfpfpnhpbnnmfadGreatDoor
namespace Go.Proofs
open Go.Shelf
def Tryz.sa6_ren : Go.Shelf.Ren := ⟨fun | 6 => 84 | 10 => 119 | 11 => 120 | 12 => 121 | 13 => 122 | 14 => 123 | 24 => 168 | 25 => 169 | 26 => 170 | 27 => 171 | 28 => 172 | 29 => 173 | 30 => 174 | 31 => 175 | 32 => 176 | 33 => 177 | 34 => 203 | 35 => 204 | 36 => 205 | 37 => 206 | 38 => 207 | 39 => 227 | n => n, fun | 20 => 20 | 26 => 147 | 35 => 178 | 0 => 0 | 37 => 180 | 3 => 3 | 41 => 37 | 44 => 185 | 49 => 163 | 51 => 214 | 4 => 4 | 54 => 217 | 53 => 216 | 58 => 221 | 5 => 5 | 9 => 9 | 60 => 239 | 64 => 243 | 66 => 258 | 67 => 259 | 17 => 17 | 32 => 166 | 33 => 176 | 82 => 276 | 12 => 12 | 75 => 270 | 76 => 271 | 77 => 272 | 78 => 93 | 79 => 273 | 80 => 274 | n => n, fun | n => n⟩
theorem Tryz.sa6 : Go.Proofs.LaysGg.n6 Tryz.prog Tryz.sa6_ren := {
  mixed := by kernel_rfl
  f6 := Tryz.func84.trans (congrArg some (by kernel_rfl))
  f10 := Tryz.func119.trans (congrArg some (by kernel_rfl))
  f11 := Tryz.func120.trans (congrArg some (by kernel_rfl))
  f12 := Tryz.func121.trans (congrArg some (by kernel_rfl))
  f13 := Tryz.func122.trans (congrArg some (by kernel_rfl))
  f14 := Tryz.func123.trans (congrArg some (by kernel_rfl))
  f24 := Tryz.func168.trans (congrArg some (by kernel_rfl))
  f25 := Tryz.func169.trans (congrArg some (by kernel_rfl))
  f26 := Tryz.func170.trans (congrArg some (by kernel_rfl))
  f27 := Tryz.func171.trans (congrArg some (by kernel_rfl))
  f28 := Tryz.func172.trans (congrArg some (by kernel_rfl))
  f29 := Tryz.func173.trans (congrArg some (by kernel_rfl))
  f30 := Tryz.func174.trans (congrArg some (by kernel_rfl))
  f31 := Tryz.func175.trans (congrArg some (by kernel_rfl))
  f32 := Tryz.func176.trans (congrArg some (by kernel_rfl))
  f33 := Tryz.func177.trans (congrArg some (by kernel_rfl))
  f34 := Tryz.func203.trans (congrArg some (by kernel_rfl))
  f35 := Tryz.func204.trans (congrArg some (by kernel_rfl))
  f36 := Tryz.func205.trans (congrArg some (by kernel_rfl))
  f37 := Tryz.func206.trans (congrArg some (by kernel_rfl))
  f38 := Tryz.func207.trans (congrArg some (by kernel_rfl))
  f39 := Tryz.func227.trans (congrArg some (by kernel_rfl))
  t0 := Tryz.underlying0
  a0 := Tryz.isAgg0
  z0 := Tryz.sizeOf0
  v0 := Tryz.zeroValue0
  i0 := by kernel_rfl
  t3 := Tryz.underlying3
  a3 := Tryz.isAgg3
  z3 := Tryz.sizeOf3
  v3 := Tryz.zeroValue3
  i3 := by kernel_rfl
  t4 := Tryz.underlying4
  a4 := Tryz.isAgg4
  z4 := Tryz.sizeOf4
  v4 := Tryz.zeroValue4
  i4 := by kernel_rfl
  t5 := Tryz.underlying5
  a5 := Tryz.isAgg5
  z5 := Tryz.sizeOf5
  v5 := Tryz.zeroValue5
  i5 := by kernel_rfl
  t9 := Tryz.underlying9
  a9 := Tryz.isAgg9
  z9 := Tryz.sizeOf9
  v9 := Tryz.zeroValue9
  i9 := by kernel_rfl
  t12 := Tryz.underlying12
  a12 := Tryz.isAgg12
  z12 := Tryz.sizeOf12
  v12 := Tryz.zeroValue12
  i12 := by kernel_rfl
  t17 := Tryz.underlying17
  a17 := Tryz.isAgg17
  z17 := Tryz.sizeOf17
  v17 := Tryz.zeroValue17
  i17 := by kernel_rfl
  t20 := Tryz.underlying20
  a20 := Tryz.isAgg20
  z20 := Tryz.sizeOf20
  v20 := Tryz.zeroValue20
  i20 := by kernel_rfl
  t26 := Tryz.underlying147
  a26 := Tryz.isAgg147
  z26 := Tryz.sizeOf147
  v26 := Tryz.zeroValue147
  i26 := by kernel_rfl
  t32 := Tryz.underlying166
  a32 := Tryz.isAgg166
  z32 := Tryz.sizeOf166
  v32 := Tryz.zeroValue166
  i32 := by kernel_rfl
  t33 := Tryz.underlying176
  a33 := Tryz.isAgg176
  z33 := Tryz.sizeOf176
  v33 := Tryz.zeroValue176
  i33 := by kernel_rfl
  t35 := Tryz.underlying178
  a35 := Tryz.isAgg178
  z35 := Tryz.sizeOf178
  v35 := Tryz.zeroValue178
  i35 := by kernel_rfl
  t37 := Tryz.underlying180
  a37 := Tryz.isAgg180
  z37 := Tryz.sizeOf180
  v37 := Tryz.zeroValue180
  i37 := by kernel_rfl
  t41 := Tryz.underlying37
  a41 := Tryz.isAgg37
  z41 := Tryz.sizeOf37
  v41 := Tryz.zeroValue37
  i41 := by kernel_rfl
  t44 := Tryz.underlying185
  a44 := Tryz.isAgg185
  z44 := Tryz.sizeOf185
  v44 := Tryz.zeroValue185
  i44 := by kernel_rfl
  t49 := Tryz.underlying163
  a49 := Tryz.isAgg163
  z49 := Tryz.sizeOf163
  v49 := Tryz.zeroValue163
  i49 := by kernel_rfl
  t51 := Tryz.underlying214
  a51 := Tryz.isAgg214
  z51 := Tryz.sizeOf214
  v51 := Tryz.zeroValue214
  i51 := by kernel_rfl
  t53 := Tryz.underlying216
  a53 := Tryz.isAgg216
  z53 := Tryz.sizeOf216
  v53 := Tryz.zeroValue216
  i53 := by kernel_rfl
  t54 := Tryz.underlying217
  a54 := Tryz.isAgg217
  z54 := Tryz.sizeOf217
  v54 := Tryz.zeroValue217
  i54 := by kernel_rfl
  t58 := Tryz.underlying221
  a58 := Tryz.isAgg221
  z58 := Tryz.sizeOf221
  v58 := Tryz.zeroValue221
  i58 := by kernel_rfl
  t60 := Tryz.underlying239
  a60 := Tryz.isAgg239
  z60 := Tryz.sizeOf239
  v60 := Tryz.zeroValue239
  i60 := by kernel_rfl
  t64 := Tryz.underlying243
  a64 := Tryz.isAgg243
  z64 := Tryz.sizeOf243
  v64 := Tryz.zeroValue243
  i64 := by kernel_rfl
  t66 := Tryz.underlying258
  a66 := Tryz.isAgg258
  z66 := Tryz.sizeOf258
  v66 := Tryz.zeroValue258
  i66 := by kernel_rfl
  t67 := Tryz.underlying259
  a67 := Tryz.isAgg259
  z67 := Tryz.sizeOf259
  v67 := Tryz.zeroValue259
  i67 := by kernel_rfl
  t75 := Tryz.underlying270
  a75 := Tryz.isAgg270
  z75 := Tryz.sizeOf270
  v75 := Tryz.zeroValue270
  i75 := by kernel_rfl
  t76 := Tryz.underlying271
  a76 := Tryz.isAgg271
  z76 := Tryz.sizeOf271
  v76 := Tryz.zeroValue271
  i76 := by kernel_rfl
  t77 := Tryz.underlying272
  a77 := Tryz.isAgg272
  z77 := Tryz.sizeOf272
  v77 := Tryz.zeroValue272
  i77 := by kernel_rfl
  t78 := Tryz.underlying93
  a78 := Tryz.isAgg93
  z78 := Tryz.sizeOf93
  v78 := Tryz.zeroValue93
  i78 := by kernel_rfl
  t79 := Tryz.underlying273
  a79 := Tryz.isAgg273
  z79 := Tryz.sizeOf273
  v79 := Tryz.zeroValue273
  i79 := by kernel_rfl
  t80 := Tryz.underlying274
  a80 := Tryz.isAgg274
  z80 := Tryz.sizeOf274
  v80 := Tryz.zeroValue274
  i80 := by kernel_rfl
  t82 := Tryz.underlying276
  a82 := Tryz.isAgg276
  z82 := Tryz.sizeOf276
  v82 := Tryz.zeroValue276
  i82 := by kernel_rfl }
end Go.Proofs
namespace Go.Proofs.YtfpfpnhpbnnmfadGreatDoor
open Go.RowKit Go.Shelf Go.Lib Go.Sort
open Idl (strs RiseN insN mem_insN insN_rise riseN_ext)
/-- names, each put to its place -/
def sortN (l : List ByteArray) : List ByteArray := l.foldl insN []
theorem foldN : ∀ (l out : List ByteArray), RiseN out → l.Nodup → (∀ s ∈ l, s ∉ out) → RiseN (l.foldl insN out) ∧ ∀ s, s ∈ l.foldl insN out ↔ s ∈ out ∨ s ∈ l
  | [], out, h, _, _ => ⟨h, fun s => by simp⟩
  | a :: l, out, h, hn, ho => by
    rw [List.nodup_cons] at hn
    obtain ⟨h1, h2⟩ := foldN l (insN out a) (insN_rise h (ho a (List.mem_cons_self ..))) hn.2 (fun s hs => by
      rw [mem_insN]
      rintro (z | z)
      · exact hn.1 (z ▸ hs)
      · exact ho s (List.mem_cons_of_mem _ hs) z)
    refine ⟨h1, fun s => ?_⟩
    rw [List.foldl_cons, h2, mem_insN, List.mem_cons]
    constructor
    · rintro ((z | z) | z)
      · exact .inr (.inl z)
      · exact .inl z
      · exact .inr (.inr z)
    · rintro (z | z | z)
      · exact .inl (.inr z)
      · exact .inl (.inl z)
      · exact .inr z
theorem sortN_rise {l : List ByteArray} (h : l.Nodup) : RiseN (sortN l) := (foldN l [] List.Pairwise.nil h (fun _ _ z => by cases z)).1
theorem sortN_mem {l : List ByteArray} (h : l.Nodup) (s : ByteArray) : s ∈ sortN l ↔ s ∈ l := by
  have := (foldN l [] List.Pairwise.nil h (fun _ _ z => by cases z)).2 s
  unfold sortN
  rw [this]; simp
theorem sortN_short {l : List ByteArray} (h : l.length ≤ 1) : sortN l = l := by
  match l, h with
  | [], _ => rfl
  | [x], _ => rfl
  | x :: y :: r, h => simp at h
theorem swo_lt : SWO Idl.lt where
  irrefl := Idl.lt_irrefl
  trans := fun _ _ _ => Idl.lt_trans
  ntrans := fun x y z h1 h2 => by
    cases e : Idl.lt x z
    · rfl
    · exfalso
      cases e1 : Idl.lt y x
      · have := Idl.lt_tri h1 e1
        rw [this] at e; rw [e] at h2; cases h2
      · rw [Idl.lt_trans e1 e] at h2; cases h2
/-- the one sorted permutation -/
theorem sorted_eq {l : List ByteArray} (hn : l.Nodup) {d' : Array ByteArray} (hp : PermIn 0 l.toArray.size l.toArray d') (hs : SortedIn Idl.lt 0 l.toArray.size d') : d'.toList = sortN l ∧ d'.size = l.length := by
  obtain ⟨hz, _, hpm⟩ := hp
  have hz' : d'.size = l.length := by simpa using hz
  have e1 : (d'.extract 0 l.toArray.size).toList = d'.toList := by rw [← hz]; simp
  have e2 : (l.toArray.extract 0 l.toArray.size).toList = l := by simp
  rw [e1, e2] at hpm
  have hnd : d'.toList.Nodup := hpm.nodup_iff.2 hn
  refine ⟨riseN_ext ?_ (sortN_rise hn) (fun s => by rw [sortN_mem hn]; exact hpm.mem_iff), hz'⟩
  unfold RiseN
  rw [List.pairwise_iff_getElem]
  intro i j hi hj hij
  have h1 := hs i j (Nat.zero_le _) hij (by simpa [hz'] using hj)
  have gi : d'[i]! = d'.toList[i] := by rw [getElem!_pos d' i (by simpa using hi)]; simp
  have gj : d'[j]! = d'.toList[j] := by rw [getElem!_pos d' j (by simpa using hj)]; simp
  rw [gi, gj] at h1
  cases e : Idl.lt d'.toList[i] d'.toList[j]
  · exfalso
    have := Idl.lt_tri e h1
    have h7 := List.pairwise_iff_getElem.1 hnd i j hi hj hij
    exact h7 this
  · rfl
theorem siK (E : TypeInfo) (a : E.hasPointers = true) (b : E.bytes = 16) (n : Nat) (h2 : 2 ≤ n) : Lib.swapperK n E 24 = 4 := by
  have c : (n == 0) = false := by simp; omega
  have d : (n == 1) = false := by simp; omega
  simp [Lib.swapperK, a, b, c, d]
theorem siK1 (E : TypeInfo) (n : Nat) (h1 : n ≤ 1) : Lib.swapperK n E 24 = n + 1 := by
  rcases Nat.eq_zero_or_pos n with h | h
  · subst h; simp [Lib.swapperK]
  · obtain rfl : n = 1 := by omega
    simp [Lib.swapperK]
theorem grow_grown (W : World) (os : Array Obj) (row : Option Nat) : W.grownBy (grow W os) row :=
  ⟨rfl, rfl, rfl, by simp [grow], fun k hk _ => by show (W.heap ++ os)[k]? = _; rw [Array.getElem?_append_left hk]⟩
set_option maxHeartbeats 2000000 in
theorem sorts_any (l : List ByteArray) (hn : l.Nodup) (hl : l.length ≤ 12) {W : World} {base Bs : Nat} {v : Value} (ho : W.ownsRow base 9 1 v l.length (strs l)) (hB : W.heap[Bs]? = some (.cells #[v] 22)) (hne : v.ownBlock ≠ some Bs) :
    Calls Tryz.prog 84 #[.iface 22 v, .func (.func 85) #[] #[.pointer (some ⟨Bs, 0, none⟩)]] W fun e w' => e = .returned (.tuple #[]) ∧ w'.ownsRow base 9 1 v l.length (strs (sortN l)) ∧ W.grownBy w' v.ownBlock := by
  by_cases h2 : 2 ≤ l.length
  · rcases ho.2 with ⟨_, e0⟩ | ⟨g, cap, cur, rfl, hb, hg, hc1, hc2, hc3, hc4⟩
    · omega
    · have hgl : g < W.heap.size := (Array.getElem?_eq_some_iff.1 hg).1
      have hBl : Bs < W.heap.size := (Array.getElem?_eq_some_iff.1 hB).1
      have hgB : g ≠ Bs := fun e => hne (by rw [e]; rfl)
      have hsz : l.toArray.size = l.length := by simp
      have hcell : ∀ j, j < l.length → cur[j]? = some (.string l.toArray[j]!) := fun j hj => by
        have h1 : (strs l)[j]? = some (.string l[j]) := by simp [strs, hj]
        rw [← hc4, List.getElem?_take, if_pos (by omega)] at h1
        have h3 : l.toArray[j]! = l[j] := by rw [getElem!_pos l.toArray j (by simpa using hj)]; simp
        rw [h3]; simpa using h1
      have hH : Holds Value.string W g 0 l.toArray := fun j hj => by
        rw [hsz] at hj
        refine ⟨?_, frozen_of_row W g _ _ _ hg⟩
        rw [Nat.zero_add, cell_of_row W g j _ _ _ hg]
        exact hcell j hj
      have hless : LessReads Tryz.prog 85 #[.pointer (some ⟨Bs, 0, none⟩)] Value.string Idl.lt g 0 l.toArray.size W := by
        intro m os dk hs i j hi hj
        have e : sortWorld Value.string W g 0 m dk os = putRow Value.string (grow (Sort.ahead W m) os) g 0 dk := by
          unfold sortWorld; rw [putRow_grow _ (Sort.ahead W m) _ g 0 _ hgl]
        have hHg : Holds Value.string (grow (Sort.ahead W m) os) g 0 l.toArray := holds_grow _ _ _ g 0 _ hgl (holds_ahead _ _ _ _ _ _ hH)
        refine less_strs g 0 cap Bs l.toArray.size _ (fun t => dk[t]!) ?_ (fun t ht => ?_) i j hi hj
        · rw [e, cell?_putRow_other _ _ g 0 dk _ (Or.inl (Ne.symm hgB)), cell?_grow _ _ _ hBl, cell?_ahead, cell_of_row W Bs 0 _ _ _ hB, hsz]; rfl
        · rw [e]; exact cell?_putRow _ _ g 0 _ dk hHg hs t (by omega)
      have hS := Any.sort_Slice_small_sorted Tryz.sa6 22 9 ((Tryz.prog.info? 22).get (by kernel_rfl)) ((Tryz.prog.info? 9).get (by kernel_rfl)) (by kernel_rfl) (by kernel_rfl) (by kernel_rfl) (by kernel_rfl) 24 (fun _ => by kernel_rfl) (by kernel_rfl) (fun _ => by kernel_rfl) Value.string (fun _ => rfl) Idl.lt swo_lt 85 _
        (enters_of Tryz.func85 (by kernel_rfl) rfl) g 0 cap l.toArray (by rw [hsz]; exact h2) (by rw [hsz]; exact hl) 162 (by rw [siK _ (by kernel_rfl) (by kernel_rfl) _ (by rw [hsz]; exact h2)]; kernel_rfl) true
        (fun args W => run_callFunc_extern Tryz.func162 (by kernel_rfl) (by kernel_rfl) (by kernel_rfl) (e := Extern.ReflectliteSwapper.swap true) (by kernel_rfl) args W) _ hless hH hgl
      rw [hsz] at hS
      change Calls Tryz.prog 84 _ _ _ at hS
      refine hS.mono ?_
      rintro e w' ⟨rfl, d', n, os, hp, hso, rfl⟩
      rw [← hsz] at hp hso
      obtain ⟨hd1, hd2⟩ := sorted_eq hn hp hso
      have hbk : (putRow Value.string (Sort.ahead W n) g 0 d').heap[g]? = some (.cells (putCells Value.string 0 d' cur) 9 (0, 0)) := by
        unfold putRow mapBlock
        show (W.heap.modify g _)[g]? = _
        rw [Array.getElem?_modify, if_pos rfl, hg]; rfl
      have hoth : ∀ k, k ≠ g → (putRow Value.string (Sort.ahead W n) g 0 d').heap[k]? = W.heap[k]? := fun k hk => by
        unfold putRow mapBlock
        show (W.heap.modify g _)[k]? = _
        rw [Array.getElem?_modify, if_neg (Ne.symm hk)]
      have hsz2 : (putRow Value.string (Sort.ahead W n) g 0 d').heap.size = W.heap.size := by unfold putRow mapBlock; show (W.heap.modify g _).size = _; simp
      refine ⟨rfl, ⟨by simp [strs, ← hd1, hd2], .inr ⟨g, cap, putCells Value.string 0 d' cur, rfl, hb, ?_, hc1, hc2, by unfold putCells; simpa using hc3, ?_⟩⟩, ⟨rfl, rfl, rfl, by simp [grow, hsz2], fun k hk hkn => ?_⟩⟩
      · show ((putRow Value.string (Sort.ahead W n) g 0 d').heap ++ os)[g]? = _
        rw [Array.getElem?_append_left (by rw [hsz2]; exact hgl)]; exact hbk
      · rw [← hd1]
        apply List.ext_getElem?
        intro j
        rw [List.getElem?_take]
        unfold putCells
        by_cases hj : j < l.length * 1
        · have hjc : j < cur.size := by omega
          rw [if_pos hj, Array.getElem?_toList, Array.getElem?_mapIdx, Array.getElem?_eq_getElem hjc]
          simp only [Option.map_some, Nat.zero_le, Nat.zero_add, true_and, Nat.sub_zero]
          rw [if_pos (by omega)]
          have h3 : d'[j]! = d'.toList[j]'(by simp; omega) := by rw [getElem!_pos d' j (by omega)]; simp
          rw [h3]
          simp [strs, show j < d'.size by omega]
        · rw [if_neg hj, List.getElem?_eq_none (by simp [strs]; omega)]
      · show ((putRow Value.string (Sort.ahead W n) g 0 d').heap ++ os)[k]? = _
        rw [Array.getElem?_append_left (by rw [hsz2]; exact hk)]
        exact hoth k (fun e => hkn (by rw [e]; rfl))
  · have h1 : l.length ≤ 1 := by omega
    have hv : ∃ p c, v = .slice p l.length c := by
      rcases ho.2 with ⟨z, e0⟩ | ⟨g, cap, cur, z, _⟩
      · exact ⟨none, 0, by rw [z, e0]⟩
      · exact ⟨_, cap, z⟩
    obtain ⟨p, c, rfl⟩ := hv
    have hS := Any.sort_Slice_tiny Tryz.sa6 22 9 ((Tryz.prog.info? 22).get (by kernel_rfl)) ((Tryz.prog.info? 9).get (by kernel_rfl)) (by kernel_rfl) (by kernel_rfl) (by kernel_rfl) (by kernel_rfl) 24 (fun _ => by kernel_rfl) p l.length c h1 (159 + l.length) (by
      rw [siK1 _ _ h1]
      rcases Nat.eq_zero_or_pos l.length with h | h
      · rw [h]; kernel_rfl
      · rw [show l.length = 1 by omega]; kernel_rfl) (.func 85) #[] #[.pointer (some ⟨Bs, 0, none⟩)] W
    change Calls Tryz.prog 84 _ _ _ at hS
    refine hS.mono ?_
    rintro e w' ⟨rfl, os, rfl⟩
    rw [sortN_short h1]
    have hg := grow_grown W os (Value.slice p l.length c).ownBlock
    exact ⟨rfl, Idl.ownsRow_of_block ho (fun k hk => by show (W.heap ++ os)[k]? = _; rw [Array.getElem?_append_left (ho.lt k hk).2]), hg⟩
end Go.Proofs.YtfpfpnhpbnnmfadGreatDoor
