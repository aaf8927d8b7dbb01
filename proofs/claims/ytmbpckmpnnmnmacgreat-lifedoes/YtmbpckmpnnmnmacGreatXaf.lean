/-
  The walk of safe.Write.
-/
import Derived.Test.YtmbpckmpnnmnmacGreatXae
import Derived.Laws.ResultCell
import Derived.ChangeKeysEq
import Derived.WalkKit
import Derived.Test.YtmbpckmpnnmnmacGreatXaa
namespace Go.Proofs.YtmbpckmpnnmnmacGreat
open Go.RowKit
theorem set5_get {cs : Array Value} {o : Nat} {v0 v1 v2 v3 v4 : Value} (h : o + 5 ≤ cs.size) (j : Nat) :
    (((((cs.setIfInBounds o v0).setIfInBounds (o + 1) v1).setIfInBounds (o + 2) v2).setIfInBounds (o + 3) v3).setIfInBounds (o + 4) v4)[j]? =
      if j = o then some v0 else if j = o + 1 then some v1 else if j = o + 2 then some v2 else if j = o + 3 then some v3 else if j = o + 4 then some v4 else cs[j]? := by
  simp only [Array.getElem?_setIfInBounds, Array.size_setIfInBounds]
  repeat' split
  all_goals first | rfl | omega
theorem set3_get {cs : Array Value} {o : Nat} {v0 v1 v2 : Value} (h : o + 3 ≤ cs.size) (j : Nat) :
    (((cs.setIfInBounds o v0).setIfInBounds (o + 1) v1).setIfInBounds (o + 2) v2)[j]? =
      if j = o then some v0 else if j = o + 1 then some v1 else if j = o + 2 then some v2 else cs[j]? := by
  simp only [Array.getElem?_setIfInBounds, Array.size_setIfInBounds]
  repeat' split
  all_goals first | rfl | omega
theorem set2_get {cs : Array Value} {o : Nat} {v0 v1 : Value} (h : o + 2 ≤ cs.size) (j : Nat) :
    ((cs.setIfInBounds o v0).setIfInBounds (o + 1) v1)[j]? = if j = o then some v0 else if j = o + 1 then some v1 else cs[j]? := by
  simp only [Array.getElem?_setIfInBounds, Array.size_setIfInBounds]
  repeat' split
  all_goals first | rfl | omega
def put5v (cs : Array Value) (n : Nat) (i : Ino) : Array Value := ((((cs.setIfInBounds (n * 5) (.bool i.live)).setIfInBounds (n * 5 + 1) (.int .i64 i.stamp)).setIfInBounds (n * 5 + 2) (.int .i64 i.links)).setIfInBounds (n * 5 + 3) (.int .i64 i.p0)).setIfInBounds (n * 5 + 4) (.int .i64 i.p1)
def put3v (cs : Array Value) (d s : Nat) (e : Ent) : Array Value := ((cs.setIfInBounds (40 + d * 12 + s * 3) (.string e.name)).setIfInBounds (40 + d * 12 + s * 3 + 1) (.int .i64 e.ino)).setIfInBounds (40 + d * 12 + s * 3 + 2) (.int .i64 e.est)
def put2v (cs : Array Value) (x : Nat) (o : Int) (t : ByteArray) : Array Value := (cs.setIfInBounds (76 + x * 2) (.int .i64 o)).setIfInBounds (76 + x * 2 + 1) (.string t)
theorem IsImg.putIno {cs : Array Value} {m : Img} (h : IsImg cs m) {n : Nat} (hn : n < 8) (i : Ino) : IsImg (put5v cs n i) (m.putIno n i) := by
  have hs := h.size
  have g := fun j => set5_get (cs := cs) (o := n * 5) (v0 := .bool i.live) (v1 := .int .i64 i.stamp) (v2 := .int .i64 i.links) (v3 := .int .i64 i.p0) (v4 := .int .i64 i.p1) (by omega) j
  unfold put5v
  refine ⟨by simp [hs], fun k hk => ?_, fun k hk => ?_, fun k hk => ?_, fun k p hk hp => ?_, fun d s h1 h2 => ?_, fun d s h1 h2 => ?_, fun d s h1 h2 => ?_, fun x h1 => ?_, fun x h1 => ?_, h.small, h.short⟩
  · rw [g]
    by_cases e : k = n
    · subst e; rw [if_pos rfl]; simp [Img.putIno]
    · rw [if_neg (by omega), if_neg (by omega), if_neg (by omega), if_neg (by omega), if_neg (by omega), h.live k hk]; simp [Img.putIno, e]
  · rw [g]
    by_cases e : k = n
    · subst e; rw [if_neg (by omega), if_pos rfl]; simp [Img.putIno]
    · rw [if_neg (by omega), if_neg (by omega), if_neg (by omega), if_neg (by omega), if_neg (by omega), h.stamp k hk]; simp [Img.putIno, e]
  · rw [g]
    by_cases e : k = n
    · subst e; rw [if_neg (by omega), if_neg (by omega), if_pos rfl]; simp [Img.putIno]
    · rw [if_neg (by omega), if_neg (by omega), if_neg (by omega), if_neg (by omega), if_neg (by omega), h.links k hk]; simp [Img.putIno, e]
  · rw [g]
    by_cases e : k = n
    · subst e
      match p, hp with
      | 0, _ => rw [if_neg (by omega), if_neg (by omega), if_neg (by omega), if_pos rfl]; simp [Img.putIno]
      | 1, _ => rw [if_neg (by omega), if_neg (by omega), if_neg (by omega), if_neg (by omega), if_pos rfl]; simp [Img.putIno]
    · rw [if_neg (by omega), if_neg (by omega), if_neg (by omega), if_neg (by omega), if_neg (by omega), h.part k p hk hp]; simp [Img.putIno, e]
  · rw [g, if_neg (by omega), if_neg (by omega), if_neg (by omega), if_neg (by omega), if_neg (by omega)]; exact h.name d s h1 h2
  · rw [g, if_neg (by omega), if_neg (by omega), if_neg (by omega), if_neg (by omega), if_neg (by omega)]; exact h.ino d s h1 h2
  · rw [g, if_neg (by omega), if_neg (by omega), if_neg (by omega), if_neg (by omega), if_neg (by omega)]; exact h.est d s h1 h2
  · rw [g, if_neg (by omega), if_neg (by omega), if_neg (by omega), if_neg (by omega), if_neg (by omega)]; exact h.of x h1
  · rw [g, if_neg (by omega), if_neg (by omega), if_neg (by omega), if_neg (by omega), if_neg (by omega)]; exact h.text x h1
theorem IsImg.putEnt {cs : Array Value} {m : Img} (h : IsImg cs m) {d s : Nat} (hd : d < 3) (hs : s < 4) (e : Ent) (he : e.name.size ≤ maxLen) : IsImg (put3v cs d s e) (m.putEnt d s e) := by
  have hz := h.size
  have g := fun j => set3_get (cs := cs) (o := 40 + d * 12 + s * 3) (v0 := .string e.name) (v1 := .int .i64 e.ino) (v2 := .int .i64 e.est) (by omega) j
  unfold put3v
  refine ⟨by simp [hz], fun k hk => ?_, fun k hk => ?_, fun k hk => ?_, fun k p hk hp => ?_, fun d' s' h1 h2 => ?_, fun d' s' h1 h2 => ?_, fun d' s' h1 h2 => ?_, fun x h1 => ?_, fun x h1 => ?_, fun d' s' => ?_, h.short⟩
  · rw [g, if_neg (by omega), if_neg (by omega), if_neg (by omega)]; exact h.live k hk
  · rw [g, if_neg (by omega), if_neg (by omega), if_neg (by omega)]; exact h.stamp k hk
  · rw [g, if_neg (by omega), if_neg (by omega), if_neg (by omega)]; exact h.links k hk
  · rw [g, if_neg (by omega), if_neg (by omega), if_neg (by omega)]; exact h.part k p hk hp
  · rw [g]
    by_cases c : d' = d ∧ s' = s
    · obtain ⟨rfl, rfl⟩ := c; rw [if_pos rfl]; simp [Img.putEnt]
    · rw [if_neg (by omega), if_neg (by omega), if_neg (by omega), h.name d' s' h1 h2]; simp [Img.putEnt, c]
  · rw [g]
    by_cases c : d' = d ∧ s' = s
    · obtain ⟨rfl, rfl⟩ := c; rw [if_neg (by omega), if_pos rfl]; simp [Img.putEnt]
    · rw [if_neg (by omega), if_neg (by omega), if_neg (by omega), h.ino d' s' h1 h2]; simp [Img.putEnt, c]
  · rw [g]
    by_cases c : d' = d ∧ s' = s
    · obtain ⟨rfl, rfl⟩ := c; rw [if_neg (by omega), if_neg (by omega), if_pos rfl]; simp [Img.putEnt]
    · rw [if_neg (by omega), if_neg (by omega), if_neg (by omega), h.est d' s' h1 h2]; simp [Img.putEnt, c]
  · rw [g, if_neg (by omega), if_neg (by omega), if_neg (by omega)]; exact h.of x h1
  · rw [g, if_neg (by omega), if_neg (by omega), if_neg (by omega)]; exact h.text x h1
  · show (if d' = d ∧ s' = s then e.name else m.name d' s').size ≤ maxLen
    split
    · exact he
    · exact h.small d' s'
theorem IsImg.putData {cs : Array Value} {m : Img} (h : IsImg cs m) {x : Nat} (hx : x < 9) (o : Int) (t : ByteArray) (ht : t.size ≤ maxLen) : IsImg (put2v cs x o t) (m.putData x o t) := by
  have hz := h.size
  have g := fun j => set2_get (cs := cs) (o := 76 + x * 2) (v0 := .int .i64 o) (v1 := .string t) (by omega) j
  unfold put2v
  refine ⟨by simp [hz], fun k hk => ?_, fun k hk => ?_, fun k hk => ?_, fun k p hk hp => ?_, fun d' s' h1 h2 => ?_, fun d' s' h1 h2 => ?_, fun d' s' h1 h2 => ?_, fun y h1 => ?_, fun y h1 => ?_, h.small, fun y => ?_⟩
  · rw [g, if_neg (by omega), if_neg (by omega)]; exact h.live k hk
  · rw [g, if_neg (by omega), if_neg (by omega)]; exact h.stamp k hk
  · rw [g, if_neg (by omega), if_neg (by omega)]; exact h.links k hk
  · rw [g, if_neg (by omega), if_neg (by omega)]; exact h.part k p hk hp
  · rw [g, if_neg (by omega), if_neg (by omega)]; exact h.name d' s' h1 h2
  · rw [g, if_neg (by omega), if_neg (by omega)]; exact h.ino d' s' h1 h2
  · rw [g, if_neg (by omega), if_neg (by omega)]; exact h.est d' s' h1 h2
  · rw [g]
    by_cases c : y = x
    · subst c; rw [if_pos rfl]; simp [Img.putData]
    · rw [if_neg (by omega), if_neg (by omega), h.of y h1]; simp [Img.putData, c]
  · rw [g]
    by_cases c : y = x
    · subst c; rw [if_neg (by omega), if_pos rfl]; simp [Img.putData]
    · rw [if_neg (by omega), if_neg (by omega), h.text y h1]; simp [Img.putData, c]
  · show (if y = x then t else m.text y).size ≤ maxLen
    split
    · exact ht
    · exact h.short y
/-- every cell is one -/
theorem IsImg.cell_at {cs : Array Value} {m : Img} (h : IsImg cs m) (i : Nat) (hi : i < 94) : (∃ b, cs[i]? = some (.bool b)) ∨ (∃ n, cs[i]? = some (.int .i64 n)) ∨ ∃ s, cs[i]? = some (.string s) := by
  by_cases h1 : i < 40
  · have e : i = i / 5 * 5 + i % 5 := by omega
    rcases (show i % 5 = 0 ∨ i % 5 = 1 ∨ i % 5 = 2 ∨ i % 5 = 3 ∨ i % 5 = 4 by omega) with r | r | r | r | r <;> rw [e, r]
    · exact .inl ⟨_, h.live (i / 5) (by omega)⟩
    · exact .inr (.inl ⟨_, h.stamp (i / 5) (by omega)⟩)
    · exact .inr (.inl ⟨_, h.links (i / 5) (by omega)⟩)
    · exact .inr (.inl ⟨_, h.part (i / 5) 0 (by omega) (by omega)⟩)
    · exact .inr (.inl ⟨_, h.part (i / 5) 1 (by omega) (by omega)⟩)
  · by_cases h2 : i < 76
    · have e : i = 40 + (i - 40) / 12 * 12 + (i - 40) % 12 / 3 * 3 + (i - 40) % 3 := by omega
      rcases (show (i - 40) % 3 = 0 ∨ (i - 40) % 3 = 1 ∨ (i - 40) % 3 = 2 by omega) with r | r | r <;> rw [e, r]
      · exact .inr (.inr ⟨_, h.name ((i - 40) / 12) ((i - 40) % 12 / 3) (by omega) (by omega)⟩)
      · exact .inr (.inl ⟨_, h.ino ((i - 40) / 12) ((i - 40) % 12 / 3) (by omega) (by omega)⟩)
      · exact .inr (.inl ⟨_, h.est ((i - 40) / 12) ((i - 40) % 12 / 3) (by omega) (by omega)⟩)
    · have e : i = 76 + (i - 76) / 2 * 2 + (i - 76) % 2 := by omega
      rcases (show (i - 76) % 2 = 0 ∨ (i - 76) % 2 = 1 by omega) with r | r <;> rw [e, r]
      · exact .inr (.inl ⟨_, h.of ((i - 76) / 2) (by omega)⟩)
      · exact .inr (.inr ⟨_, h.text ((i - 76) / 2) (by omega)⟩)
theorem IsImg.all {cs : Array Value} {m : Img} (h : IsImg cs m) : cs.all (·.oneCell') = true := by
  rw [Array.all_eq_true]
  intro i hi
  have hg : cs[i]? = some cs[i] := by simp [hi]
  rcases h.cell_at i (by rw [h.size] at hi; exact hi) with ⟨b, e⟩ | ⟨b, e⟩ | ⟨b, e⟩
  all_goals
    rw [hg] at e
    rw [Option.some.inj e]; rfl
theorem IsImg.agree {cs ds : Array Value} {m k : Img} (h : IsImg cs m) (h' : IsImg ds k) (a : Img.Agree m k) : cs = ds := by
  refine Array.ext_getElem? fun i => ?_
  by_cases hi : i < 94
  · by_cases h1 : i < 40
    · have e : i = i / 5 * 5 + i % 5 := by omega
      have hn : i / 5 < 8 := by omega
      rcases (show i % 5 = 0 ∨ i % 5 = 1 ∨ i % 5 = 2 ∨ i % 5 = 3 ∨ i % 5 = 4 by omega) with r | r | r | r | r <;> rw [e, r]
      · exact (h.live _ hn).trans (by rw [a.live _ hn]; exact (h'.live _ hn).symm)
      · exact (h.stamp _ hn).trans (by rw [a.stamp _ hn]; exact (h'.stamp _ hn).symm)
      · exact (h.links _ hn).trans (by rw [a.links _ hn]; exact (h'.links _ hn).symm)
      · exact (h.part _ 0 hn (by omega)).trans (by rw [a.part _ _ hn (by omega)]; exact (h'.part _ 0 hn (by omega)).symm)
      · exact (h.part _ 1 hn (by omega)).trans (by rw [a.part _ _ hn (by omega)]; exact (h'.part _ 1 hn (by omega)).symm)
    · by_cases h2 : i < 76
      · have e : i = 40 + (i - 40) / 12 * 12 + (i - 40) % 12 / 3 * 3 + (i - 40) % 3 := by omega
        have hd : (i - 40) / 12 < 3 := by omega
        have hs : (i - 40) % 12 / 3 < 4 := by omega
        rcases (show (i - 40) % 3 = 0 ∨ (i - 40) % 3 = 1 ∨ (i - 40) % 3 = 2 by omega) with r | r | r <;> rw [e, r]
        · exact (h.name _ _ hd hs).trans (by rw [a.name _ _ hd hs]; exact (h'.name _ _ hd hs).symm)
        · exact (h.ino _ _ hd hs).trans (by rw [a.ino _ _ hd hs]; exact (h'.ino _ _ hd hs).symm)
        · exact (h.est _ _ hd hs).trans (by rw [a.est _ _ hd hs]; exact (h'.est _ _ hd hs).symm)
      · have e : i = 76 + (i - 76) / 2 * 2 + (i - 76) % 2 := by omega
        have hx : (i - 76) / 2 < 9 := by omega
        rcases (show (i - 76) % 2 = 0 ∨ (i - 76) % 2 = 1 by omega) with r | r <;> rw [e, r]
        · exact (h.of _ hx).trans (by rw [a.of _ hx]; exact (h'.of _ hx).symm)
        · exact (h.text _ hx).trans (by rw [a.text _ hx]; exact (h'.text _ hx).symm)
  · rw [Array.getElem?_eq_none (by rw [h.size]; omega), Array.getElem?_eq_none (by rw [h'.size]; omega)]
end Go.Proofs.YtmbpckmpnnmnmacGreat
namespace Go.Proofs.YtmbpckmpnnmnmacGreat
open Go.RowKit
/-- an image that fills a block -/
def Row (w : World) (b : Nat) (m : Img) : Prop := ∃ cs, w.heap[b]? = some (.cells cs 44) ∧ IsImg cs m
theorem Row.has {w : World} {b : Nat} {m : Img} (h : Row w b m) : HasImg w b m := by
  obtain ⟨cs, h1, h2⟩ := h
  exact has_of_row h1 h2
/-- what Write answers -/
def Written (x : Img) (ok : Bool) (e : Ending) : Prop := ∃ cs, e = .returned (.tuple #[.agg cs, .bool ok]) ∧ IsImg cs x
theorem results_row_tmp {P : Program} {fn : Func} {p u : Tmp} {ty : TypeId} (h : fn.results = #[.cell p ty, .tmp u]) (tmps : Array Value) (w : World) (g : Nat) (t : TypeId) (cs : Array Value) (fr : Nat × Nat) (d : TypeDesc) (v : Value)
    (hp : tmps.getD p undef = .pointer (some ⟨g, 0, none⟩)) (hv : tmps.getD u undef = v) (hg : w.heap[g]? = some (.cells cs t fr))
    (hu : P.underlying ty = some d) (hd : (match d with | .struct _ | .array _ _ => true | _ => false) = true) (hi : (P.info? ty).map (·.size) = some cs.size) :
    (results fn tmps).run P w = .ok (.tuple #[.agg cs, v]) w := by
  rw [results_cell_tmp h, hp, hv]
  simp [asAddr, run_loadVar_row w g t ty cs fr d hg hu hd hi]
theorem Img.wInos_step {now disk : Img} {q kk : Nat} (h : q ≤ kk) : Img.wInos now disk q (kk + 1 - q) = (Img.wInos now disk q (kk - q)).putIno kk (Img.inodeAs now disk kk) := by
  rw [show kk + 1 - q = (kk - q) + 1 by omega, Img.wInos, show q + (kk - q) = kk by omega]
theorem Img.wDir_step {now disk : Img} {d s : Nat} : Img.wDir now disk d (s + 1) = (Img.wDir now disk d s).putEnt d s (Img.entryAs now (Img.wDir now disk d s) d s) := rfl
theorem entryAs_small {now m : Img} (h1 : ∀ d s, (now.name d s).size ≤ maxLen) (h2 : ∀ d s, (m.name d s).size ≤ maxLen) (d s : Nat) : (Img.entryAs now m d s).name.size ≤ maxLen := by
  rcases Img.entryAs_cases now m d s with e | ⟨_, _, e⟩ | ⟨_, _, e⟩ <;> rw [e]
  · exact h2 d s
  · exact h1 d s
  · exact Nat.zero_le _
end Go.Proofs.YtmbpckmpnnmnmacGreat
namespace Go.Proofs.YtmbpckmpnnmnmacGreat
open Go.RowKit
section
variable {w wr w1 : World} {l : List (Nat × Array Value)}
end
theorem zero_size {cs : Array Value} {m : Img} (h : IsImg cs m) : zeroCells.size = cs.size := by rw [h.size]; exact size_newTo 0
def blankI : Img := imgOf blankCells
theorem blank_kinds : Kinds blankCells := .of size_blank (by kernel_rfl)
theorem blank_is : IsImg blankCells blankI := blank_kinds.isImg
end Go.Proofs.YtmbpckmpnnmnmacGreat
namespace Go.Proofs.YtmbpckmpnnmnmacGreat
open Go.RowKit
section
variable {P : Program}
end
theorem part_inode (xs : Array Value) (off : Nat) (w : World) : (part 34 xs off).run Tryz.prog w = .ok (.agg (xs.extract off (off + 5))) w := by
  have u := run_underlying (w := w) Tryz.underlying34
  simp [part, isAgg, u]
theorem part_entry (xs : Array Value) (off : Nat) (w : World) : (part 37 xs off).run Tryz.prog w = .ok (.agg (xs.extract off (off + 3))) w := by
  have u := run_underlying (w := w) Tryz.underlying37
  simp [part, isAgg, u]
theorem part_data (xs : Array Value) (off : Nat) (w : World) : (part 41 xs off).run Tryz.prog w = .ok (.agg (xs.extract off (off + 2))) w := by
  have u := run_underlying (w := w) Tryz.underlying41
  simp [part, isAgg, u]
theorem part_dir (xs : Array Value) (off : Nat) (w : World) : (part 38 xs off).run Tryz.prog w = .ok (.agg (xs.extract off (off + 12))) w := by
  have u := run_underlying (w := w) Tryz.underlying38
  simp [part, isAgg, u]
theorem part_inodes (xs : Array Value) (off : Nat) (w : World) : (part 35 xs off).run Tryz.prog w = .ok (.agg (xs.extract off (off + 40))) w := by
  have u := run_underlying (w := w) Tryz.underlying35
  simp [part, isAgg, u]
theorem part_dirs (xs : Array Value) (off : Nat) (w : World) : (part 39 xs off).run Tryz.prog w = .ok (.agg (xs.extract off (off + 36))) w := by
  have u := run_underlying (w := w) Tryz.underlying39
  simp [part, isAgg, u]
theorem part_datas (xs : Array Value) (off : Nat) (w : World) : (part 42 xs off).run Tryz.prog w = .ok (.agg (xs.extract off (off + 18))) w := by
  have u := run_underlying (w := w) Tryz.underlying42
  simp [part, isAgg, u]
theorem ext_at {xs : Array Value} {a b j : Nat} {v : Value} (hj : a + j < b) (h : xs[a + j]? = some v) : (xs.extract a b)[j]? = some v := by
  have hs : a + j < xs.size := (Array.getElem?_eq_some_iff.1 h).1
  rw [Array.getElem?_extract, if_pos (by omega)]; exact h
theorem cut5 {xs : Array Value} {o : Nat} {v0 v1 v2 v3 v4 : Value} (h0 : xs[o]? = some v0) (h1 : xs[o + 1]? = some v1) (h2 : xs[o + 2]? = some v2) (h3 : xs[o + 3]? = some v3) (h4 : xs[o + 4]? = some v4) : xs.extract o (o + 5) = #[v0, v1, v2, v3, v4] := by
  have hs : o + 4 < xs.size := (Array.getElem?_eq_some_iff.1 h4).1
  refine Array.ext_getElem? fun j => ?_
  rw [Array.getElem?_extract]
  by_cases hj : j < 5
  · rw [if_pos (by omega)]
    match j, hj with
    | 0, _ => exact h0
    | 1, _ => exact h1
    | 2, _ => exact h2
    | 3, _ => exact h3
    | 4, _ => exact h4
  · rw [if_neg (by omega), Array.getElem?_eq_none (by simp; omega)]
theorem cut3 {xs : Array Value} {o : Nat} {v0 v1 v2 : Value} (h0 : xs[o]? = some v0) (h1 : xs[o + 1]? = some v1) (h2 : xs[o + 2]? = some v2) : xs.extract o (o + 3) = #[v0, v1, v2] := by
  have hs : o + 2 < xs.size := (Array.getElem?_eq_some_iff.1 h2).1
  refine Array.ext_getElem? fun j => ?_
  rw [Array.getElem?_extract]
  by_cases hj : j < 3
  · rw [if_pos (by omega)]
    match j, hj with
    | 0, _ => exact h0
    | 1, _ => exact h1
    | 2, _ => exact h2
  · rw [if_neg (by omega), Array.getElem?_eq_none (by simp; omega)]
theorem cut2 {xs : Array Value} {o : Nat} {v0 v1 : Value} (h0 : xs[o]? = some v0) (h1 : xs[o + 1]? = some v1) : xs.extract o (o + 2) = #[v0, v1] := by
  have hs : o + 1 < xs.size := (Array.getElem?_eq_some_iff.1 h1).1
  refine Array.ext_getElem? fun j => ?_
  rw [Array.getElem?_extract]
  by_cases hj : j < 2
  · rw [if_pos (by omega)]
    match j, hj with
    | 0, _ => exact h0
    | 1, _ => exact h1
  · rw [if_neg (by omega), Array.getElem?_eq_none (by simp; omega)]
theorem cells_ino : Tryz.prog.cellsOf 34 = 5 := by kernel_rfl
theorem cells_ent : Tryz.prog.cellsOf 37 = 3 := by kernel_rfl
theorem cells_dat : Tryz.prog.cellsOf 41 = 2 := by kernel_rfl
theorem cells_dir : Tryz.prog.cellsOf 38 = 12 := by kernel_rfl
theorem info_ino : ∃ i, Tryz.prog.info? 34 = some i := info_of_underlying Tryz.underlying34
theorem info_ent : ∃ i, Tryz.prog.info? 37 = some i := info_of_underlying Tryz.underlying37
theorem info_dat : ∃ i, Tryz.prog.info? 41 = some i := info_of_underlying Tryz.underlying41
theorem info_dir : ∃ i, Tryz.prog.info? 38 = some i := info_of_underlying Tryz.underlying38
variable {cs : Array Value} {m : Img}
def fieldT (f : Field) : Bool × TypeId × Nat := (f.name != "_", f.type, f.offset)
theorem img_fields : (Tryz.prog.fieldsOf 44).toList.map fieldT = [(true, 35, 0), (true, 39, 40), (true, 42, 76)] := by kernel_rfl
theorem img_stood : Tryz.prog.stoodInHeld 44 = false := by kernel_rfl
end Go.Proofs.YtmbpckmpnnmnmacGreat
namespace Go.Proofs.YtmbpckmpnnmnmacGreat
open Go.RowKit
section
variable {P : Program}
def EqV (P : Program) (dd : Nat) (t : TypeId) (x y : Value) (v : Bool) : Prop := ∀ w, (Op.equalIn dd t x y).run P w = .ok v w
theorem eqItems_v (dd : Nat) (e : TypeId) (c : Nat) (xs ys : Array Value) (f : Nat → Bool) : ∀ is : List Nat, (∀ i ∈ is, ∃ a b, (∀ w, (part e xs (i * c)).run P w = .ok a w) ∧ (∀ w, (part e ys (i * c)).run P w = .ok b w) ∧ EqV P dd e a b (f i)) → ∀ w, (Op.eqItems dd e c xs ys is).run P w = .ok (is.all f) w
  | [], _, w => by simp [Op.eqItems]
  | i :: is, h, w => by
    obtain ⟨a, b, h1, h2, h3⟩ := h i (by simp)
    have ih := eqItems_v dd e c xs ys f is (fun j hj => h j (by simp [hj])) w
    simp only [Op.eqItems, Sem.run_bind, h1, h2, h3 w, Result.andThen_ok, List.all_cons]
    cases f i
    · simp
    · simpa using ih
theorem eqFields_v (dd : Nat) (xs ys : Array Value) (g : Nat → Bool) : ∀ fs : List Field, (∀ f ∈ fs, f.name ≠ "_" ∧ ∃ a b, (∀ w, (part f.type xs f.offset).run P w = .ok a w) ∧ (∀ w, (part f.type ys f.offset).run P w = .ok b w) ∧ EqV P dd f.type a b (g f.offset)) → ∀ w, (Op.eqFields dd xs ys fs).run P w = .ok (fs.all fun f => g f.offset) w
  | [], _, w => by simp [Op.eqFields]
  | f :: fs, h, w => by
    obtain ⟨hn, a, b, h1, h2, h3⟩ := h f (by simp)
    have ih := eqFields_v dd xs ys g fs (fun j hj => h j (by simp [hj])) w
    simp only [Op.eqFields, hn, ne_eq, not_false_eq_true, if_true, Sem.run_bind, h1, h2, h3 w, Result.andThen_ok, List.all_cons]
    cases g f.offset
    · simp
    · simpa using ih
end
namespace Img
def sameIno (a b : Img) (n : Nat) : Bool := a.live n == b.live n && a.stamp n == b.stamp n && a.links n == b.links n && a.part n 0 == b.part n 0 && a.part n 1 == b.part n 1
def sameDat (a b : Img) (x : Nat) : Bool := a.of x == b.of x && (a.text x).toList == (b.text x).toList
def sameDir (a b : Img) (d : Nat) : Bool := (List.range 4).all fun s => sameEnt a b d s
def sameImg (a b : Img) : Bool := ((List.range 8).all fun n => sameIno a b n) && ((List.range 3).all fun d => sameDir a b d) && ((List.range 9).all fun x => sameDat a b x)
theorem same_iff {a b : Img} : sameImg a b = true ↔ Agree a b := by
  unfold sameImg sameDir sameIno sameDat sameEnt
  simp only [Bool.and_eq_true, List.all_eq_true, List.mem_range, beq_iff_eq]
  constructor
  · rintro ⟨⟨h1, h2⟩, h3⟩
    refine ⟨fun n hn => (h1 n hn).1.1.1.1, fun n hn => (h1 n hn).1.1.1.2, fun n hn => (h1 n hn).1.1.2, fun n p hn hp => ?_, fun d s hd hs => bytes_ext (h2 d hd s hs).1.1, fun d s hd hs => (h2 d hd s hs).1.2, fun d s hd hs => (h2 d hd s hs).2, fun x hx => (h3 x hx).1, fun x hx => bytes_ext (h3 x hx).2⟩
    match p, hp with
    | 0, _ => exact (h1 n hn).1.2
    | 1, _ => exact (h1 n hn).2
  · intro h
    exact ⟨⟨fun n hn => ⟨⟨⟨⟨h.live n hn, h.stamp n hn⟩, h.links n hn⟩, h.part n 0 hn (by omega)⟩, h.part n 1 hn (by omega)⟩, fun d hd s hs => ⟨⟨by rw [h.name d s hd hs], h.ino d s hd hs⟩, h.est d s hd hs⟩⟩, fun x hx => ⟨h.of x hx, by rw [h.text x hx]⟩⟩
end Img
theorem eqParts_v (d : Nat) (a b c e : Int) (w : World) : (Op.equalIn (d + 2) 32 (.agg #[.int .i64 a, .int .i64 b]) (.agg #[.int .i64 c, .int .i64 e])).run Tryz.prog w = .ok (a == c && b == e) w := by
  have u3 := Tryz.underlying3
  have a3 := Tryz.isAgg3
  have z3 := Tryz.sizeOf3
  rw [show d + 2 = (d + 1) + 1 from rfl, Op.equalIn]
  simp only [Sem.run_bind, run_underlying Tryz.underlying32, Result.andThen_ok]
  simp only [Std.Legacy.Range.forIn_eq_forIn_range', Std.Legacy.Range.size, Nat.sub_zero, Nat.add_sub_cancel, Nat.div_one, List.range'_succ, List.range'_zero, List.forIn_cons, List.forIn_nil]
  cases h1 : a == c <;> cases h2 : b == e <;> (go_simp; try simp_all)
def inoB (i j : Ino) : Bool := i.live == j.live && i.stamp == j.stamp && i.links == j.links && i.p0 == j.p0 && i.p1 == j.p1
set_option maxHeartbeats 1000000 in
theorem eqIno_v (d : Nat) (i j : Ino) : EqV Tryz.prog (d + 3) 34 (inoV i) (inoV j) (inoB i j) := by
  intro w
  have u1 := Tryz.underlying3
  have u2 := Tryz.underlying4
  have q := eqParts_v d
  unfold inoV inoB
  rw [show d + 3 = (d + 2) + 1 from rfl]
  go_simp
  cases h1 : i.live == j.live <;> cases h2 : i.stamp == j.stamp <;> cases h3 : i.links == j.links <;> cases h4 : i.p0 == j.p0 <;> cases h5 : i.p1 == j.p1 <;> simp_all
theorem eqEnt_v (d : Nat) (e f : Ent) : EqV Tryz.prog (d + 2) 37 (entV e) (entV f) (e.name.toList == f.name.toList && e.ino == f.ino && e.est == f.est) := by
  intro w
  have u1 := Tryz.underlying3
  have u2 := Tryz.underlying9
  unfold entV
  rw [show d + 2 = (d + 1) + 1 from rfl]
  go_simp
  cases h1 : e.name.toList == f.name.toList <;> cases h2 : e.ino == f.ino <;> cases h3 : e.est == f.est <;> simp_all
theorem eqDat_v (d : Nat) (o p : Int) (t u : ByteArray) : EqV Tryz.prog (d + 2) 41 (.agg #[.int .i64 o, .string t]) (.agg #[.int .i64 p, .string u]) (o == p && t.toList == u.toList) := by
  intro w
  have u1 := Tryz.underlying3
  have u2 := Tryz.underlying9
  rw [show d + 2 = (d + 1) + 1 from rfl]
  go_simp
  cases h1 : o == p <;> cases h2 : t.toList == u.toList <;> simp_all
section
variable {cs ds : Array Value} {m k : Img}
theorem cutIno (h : IsImg cs m) {n : Nat} (hn : n < 8) : (cs.extract 0 (0 + 40)).extract (n * 5) (n * 5 + 5) = #[.bool (m.live n), .int .i64 (m.stamp n), .int .i64 (m.links n), .int .i64 (m.part n 0), .int .i64 (m.part n 1)] :=
  cut5 (ext_at (by omega) (by rw [Nat.zero_add]; exact h.live n hn)) (ext_at (by omega) (by rw [Nat.zero_add]; exact h.stamp n hn)) (ext_at (by omega) (by rw [Nat.zero_add]; exact h.links n hn)) (ext_at (by omega) (by rw [Nat.zero_add]; exact h.part n 0 hn (by omega))) (ext_at (by omega) (by rw [Nat.zero_add]; exact h.part n 1 hn (by omega)))
theorem eqInos_v (h : IsImg cs m) (h' : IsImg ds k) (d : Nat) : EqV Tryz.prog (d + 4) 35 (.agg (cs.extract 0 (0 + 40))) (.agg (ds.extract 0 (0 + 40))) ((List.range 8).all fun n => Img.sameIno m k n) := by
  intro w
  obtain ⟨i, hi⟩ := info_ino
  rw [show d + 4 = (d + 3) + 1 from rfl, run_equalIn_array w (d + 3) _ _ Tryz.underlying35 hi, cells_ino]
  refine eqItems_v _ _ _ _ _ _ _ (fun n hn => ?_) w
  have hn8 : n < 8 := List.mem_range.1 hn
  refine ⟨_, _, part_inode _ _, part_inode _ _, ?_⟩
  rw [cutIno h hn8, cutIno h' hn8]
  exact eqIno_v d (m.inode n) (k.inode n)
theorem cutEnt (h : IsImg cs m) {e s : Nat} (hd : e < 3) (hs4 : s < 4) : ((cs.extract 40 (40 + 36)).extract (e * 12) (e * 12 + 12)).extract (s * 3) (s * 3 + 3) = #[.string (m.name e s), .int .i64 (m.ino e s), .int .i64 (m.est e s)] :=
  cut3 (ext_at (by omega) (ext_at (by omega) (by rw [← Nat.add_assoc]; exact h.name e s hd hs4))) (ext_at (by omega) (ext_at (by omega) (by rw [← Nat.add_assoc, ← Nat.add_assoc]; exact h.ino e s hd hs4))) (ext_at (by omega) (ext_at (by omega) (by rw [← Nat.add_assoc, ← Nat.add_assoc]; exact h.est e s hd hs4)))
theorem eqDir_v (h : IsImg cs m) (h' : IsImg ds k) (d e : Nat) (hd : e < 3) : EqV Tryz.prog (d + 3) 38 (.agg ((cs.extract 40 (40 + 36)).extract (e * 12) (e * 12 + 12))) (.agg ((ds.extract 40 (40 + 36)).extract (e * 12) (e * 12 + 12))) (Img.sameDir m k e) := by
  intro w
  obtain ⟨i, hi⟩ := info_ent
  rw [show d + 3 = (d + 2) + 1 from rfl, run_equalIn_array w (d + 2) _ _ Tryz.underlying38 hi, cells_ent]
  refine eqItems_v _ _ _ _ _ _ _ (fun s hs => ?_) w
  have hs4 : s < 4 := List.mem_range.1 hs
  refine ⟨_, _, part_entry _ _, part_entry _ _, ?_⟩
  rw [cutEnt h hd hs4, cutEnt h' hd hs4]
  exact eqEnt_v d (m.entry e s) (k.entry e s)
theorem eqDirs_v (h : IsImg cs m) (h' : IsImg ds k) (d : Nat) : EqV Tryz.prog (d + 4) 39 (.agg (cs.extract 40 (40 + 36))) (.agg (ds.extract 40 (40 + 36))) ((List.range 3).all fun e => Img.sameDir m k e) := by
  intro w
  obtain ⟨i, hi⟩ := info_dir
  rw [show d + 4 = (d + 3) + 1 from rfl, run_equalIn_array w (d + 3) _ _ Tryz.underlying39 hi, cells_dir]
  refine eqItems_v _ _ _ _ _ _ _ (fun e he => ?_) w
  exact ⟨_, _, part_dir _ _, part_dir _ _, eqDir_v h h' d e (List.mem_range.1 he)⟩
theorem cutDat (h : IsImg cs m) {x : Nat} (hx9 : x < 9) : (cs.extract 76 (76 + 18)).extract (x * 2) (x * 2 + 2) = #[.int .i64 (m.of x), .string (m.text x)] :=
  cut2 (ext_at (by omega) (h.of x hx9)) (ext_at (by omega) (by rw [← Nat.add_assoc]; exact h.text x hx9))
theorem eqDatas_v (h : IsImg cs m) (h' : IsImg ds k) (d : Nat) : EqV Tryz.prog (d + 4) 42 (.agg (cs.extract 76 (76 + 18))) (.agg (ds.extract 76 (76 + 18))) ((List.range 9).all fun x => Img.sameDat m k x) := by
  intro w
  obtain ⟨i, hi⟩ := info_dat
  rw [show d + 4 = (d + 3) + 1 from rfl, run_equalIn_array w (d + 3) _ _ Tryz.underlying42 hi, cells_dat]
  refine eqItems_v _ _ _ _ _ _ _ (fun x hx => ?_) w
  have hx9 : x < 9 := List.mem_range.1 hx
  refine ⟨_, _, part_data _ _, part_data _ _, ?_⟩
  rw [cutDat h hx9, cutDat h' hx9]
  exact eqDat_v (d + 1) _ _ _ _
def partB (m k : Img) (o : Nat) : Bool := if o = 0 then (List.range 8).all fun n => Img.sameIno m k n else if o = 40 then (List.range 3).all fun d => Img.sameDir m k d else (List.range 9).all fun x => Img.sameDat m k x
theorem img_all (m k : Img) : ((Tryz.prog.fieldsOf 44).toList.all fun f => partB m k f.offset) = Img.sameImg m k := by
  have e : ((Tryz.prog.fieldsOf 44).toList.all fun f => partB m k f.offset) = (((Tryz.prog.fieldsOf 44).toList.map fieldT).all fun p => partB m k p.2.2) := by
    rw [List.all_map]; rfl
  rw [e, img_fields]
  simp [partB, Img.sameImg, Bool.and_assoc]
theorem eqImg_v (h : IsImg cs m) (h' : IsImg ds k) (w : World) : (Op.equalIn 10000 44 (.agg cs) (.agg ds)).run Tryz.prog w = .ok (Img.sameImg m k) w := by
  rw [show (10000 : Nat) = 9999 + 1 from rfl, run_equalIn_struct w 9999 44 cs ds img_under img_stood, ← img_all]
  refine eqFields_v _ _ _ (partB m k) _ (fun f hf => ?_) w
  have hm := List.mem_map_of_mem (f := fieldT) hf
  rw [img_fields] at hm
  simp only [List.mem_cons, List.not_mem_nil, or_false, fieldT, Prod.mk.injEq, bne_iff_ne] at hm
  rcases hm with ⟨a1, a2, a3⟩ | ⟨a1, a2, a3⟩ | ⟨a1, a2, a3⟩
  · exact ⟨a1, _, _, by rw [a2, a3]; exact part_inodes _ _, by rw [a2, a3]; exact part_inodes _ _, by rw [a2, a3]; exact eqInos_v h h' 9995⟩
  · exact ⟨a1, _, _, by rw [a2, a3]; exact part_dirs _ _, by rw [a2, a3]; exact part_dirs _ _, by rw [a2, a3]; exact eqDirs_v h h' 9995⟩
  · exact ⟨a1, _, _, by rw [a2, a3]; exact part_datas _ _, by rw [a2, a3]; exact part_datas _ _, by rw [a2, a3]; exact eqDatas_v h h' 9995⟩
theorem eqlImg (h : IsImg cs m) (h' : IsImg ds k) (w : World) : (binOp .eql 44 (.agg cs) (.agg ds)).run Tryz.prog w = .ok (.bool (Img.sameImg m k)) w := by
  rw [run_eql_struct, eqImg_v h h']; rfl
theorem neqlImg (h : IsImg cs m) (h' : IsImg ds k) (w : World) : (binOp .neq 44 (.agg cs) (.agg ds)).run Tryz.prog w = .ok (.bool (!Img.sameImg m k)) w := by
  rw [run_neq_struct, eqImg_v h h']; rfl
theorem neqlInode (i j : Ino) (w : World) : (binOp .neq 34 (inoV i) (inoV j)).run Tryz.prog w = .ok (.bool (!inoB i j)) w := by
  unfold inoV
  rw [run_neq_struct]
  have := eqIno_v 9997 i j w
  unfold inoV at this
  rw [this]; rfl
theorem neqlDat (o p : Int) (t u : ByteArray) (w : World) : (binOp .neq 41 (.agg #[.int .i64 o, .string t]) (.agg #[.int .i64 p, .string u])).run Tryz.prog w = .ok (.bool (!(o == p && t.toList == u.toList))) w := by
  rw [run_neq_struct, eqDat_v 9998 o p t u w]; rfl
end
end Go.Proofs.YtmbpckmpnnmnmacGreat
namespace Go.Proofs.YtmbpckmpnnmnmacGreat
namespace Img
/-- a Write of each block, from the last one to the first one: those below b -/
def down (now disk : Img) : Nat → Img
  | 0 => disk
  | b + 1 => down now (write now disk (b : Int)) b
/-- as long as it is not clean, f times at most: how often, and what lies there then -/
def syn (now : Img) : Nat → Img → Nat × Img
  | 0, disk => (0, disk)
  | f + 1, disk => if sameImg now disk = true then (0, disk) else ((syn now f (down now disk 14)).1 + 1, (syn now f (down now disk 14)).2)
theorem syn_step {now disk : Img} {f : Nat} (h : sameImg now disk = false) : syn now (f + 1) disk = ((syn now f (down now disk 14)).1 + 1, (syn now f (down now disk 14)).2) := by
  show (if sameImg now disk = true then _ else _) = _
  rw [if_neg (by rw [h]; simp)]
theorem syn_stop {now disk : Img} {f : Nat} (h : sameImg now disk = true) : syn now f disk = (0, disk) := by
  cases f
  · rfl
  · show (if sameImg now disk = true then _ else _) = _
    rw [if_pos h]
def freeIno (now disk : Img) : Int := firstI (fun n => !now.live n && (disk.refs (n : Int) == 0)) 8
def freeSlot (now disk : Img) (d : Int) : Int := if 0 ≤ d ∧ d < 3 then firstI (fun s => !now.named d.toNat s && !disk.named d.toNat s) 4 else -1
def freeData (now disk : Img) : Int := firstI (fun x => !now.holds (x : Int) && !disk.holds (x : Int)) 9
/-! what first answers -/
end Img
end Go.Proofs.YtmbpckmpnnmnmacGreat
namespace Go.Proofs.YtmbpckmpnnmnmacGreat
namespace Idl
def lt (a b : ByteArray) : Bool := Op.bytesLess a.toList b.toList
theorem bl_irrefl : ∀ l : List UInt8, Op.bytesLess l l = false
  | [] => rfl
  | a :: l => by simp [Op.bytesLess, bl_irrefl l]
theorem bl_trans : ∀ {a b c : List UInt8}, Op.bytesLess a b = true → Op.bytesLess b c = true → Op.bytesLess a c = true
  | _, _, [], _, h2 => by simp [Op.bytesLess] at h2
  | _, [], _ :: _, h1, _ => by simp [Op.bytesLess] at h1
  | [], _ :: _, _ :: _, _, _ => by simp [Op.bytesLess]
  | x :: a, y :: b, z :: c, h1, h2 => by
    simp only [Op.bytesLess, Bool.or_eq_true, decide_eq_true_eq, Bool.and_eq_true, beq_iff_eq] at h1 h2 ⊢
    rcases h1 with h1 | ⟨rfl, h1⟩ <;> rcases h2 with h2 | ⟨rfl, h2⟩
    · exact .inl (UInt8.lt_trans h1 h2)
    · exact .inl h1
    · exact .inl h2
    · exact .inr ⟨rfl, bl_trans h1 h2⟩
theorem bl_tri : ∀ {a b : List UInt8}, Op.bytesLess a b = false → Op.bytesLess b a = false → a = b
  | [], [], _, _ => rfl
  | [], _ :: _, h1, _ => by simp [Op.bytesLess] at h1
  | _ :: _, [], _, h2 => by simp [Op.bytesLess] at h2
  | x :: a, y :: b, h1, h2 => by
    simp only [Op.bytesLess, Bool.or_eq_false_iff, decide_eq_false_iff_not, Bool.and_eq_false_iff, beq_eq_false_iff_ne] at h1 h2
    have e : x = y := by
      have n1 := h1.1
      have n2 := h2.1
      rw [UInt8.lt_iff_toNat_lt] at n1 n2
      exact UInt8.toNat_inj.1 (by omega)
    subst e
    have e2 : a = b := bl_tri (by rcases h1.2 with h | h; exact absurd rfl h; exact h) (by rcases h2.2 with h | h; exact absurd rfl h; exact h)
    rw [e2]
theorem toList_inj {a b : ByteArray} (h : a.toList = b.toList) : a = b := by
  rw [ByteArray.toList_eq, ByteArray.toList_eq] at h
  cases a; cases b
  simp at h
  rw [h]
theorem lt_irrefl (a : ByteArray) : lt a a = false := bl_irrefl _
theorem lt_trans {a b c : ByteArray} (h1 : lt a b = true) (h2 : lt b c = true) : lt a c = true := bl_trans h1 h2
theorem lt_tri {a b : ByteArray} (h1 : lt a b = false) (h2 : lt b a = false) : a = b := toList_inj (bl_tri h1 h2)
theorem lt_asymm {a b : ByteArray} (h : lt a b = true) : lt b a = false := by
  cases h2 : lt b a with
  | false => rfl
  | true => have := lt_trans h h2; rw [lt_irrefl] at this; cases this
abbrev Ent := ByteArray × Nat
end Idl
end Go.Proofs.YtmbpckmpnnmnmacGreat
namespace Go.Proofs.YtmbpckmpnnmnmacGreat
namespace Idl
structure Stp where
  kind : Int
  dir : Int
  toDir : Int
  p : Int
  name : ByteArray
  to : ByteArray
  text : ByteArray
structure St where
  dir : Nat → List Ent
  has : Nat → Nat → Bool
  txt : Nat → Nat → ByteArray
  next : Nat
def none0 : ByteArray := ⟨#[]⟩
def isD (d : Int) : Bool := decide (0 ≤ d) && decide (d < 3)
def spot (d : Int) (s : ByteArray) : Int := if isD d = false then 1 else if Img.isNmB s.toList = false then 2 else 0
def chk (x : Stp) : Int :=
  if x.kind < 1 ∨ 6 < x.kind then 7 else
  if spot x.dir x.name ≠ 0 then spot x.dir x.name else
  if x.kind = 2 ∨ x.kind = 4 then spot x.toDir x.to else
  if (x.kind = 5 ∨ x.kind = 6) ∧ (x.p < 0 ∨ 2 ≤ x.p) then 1 else
  if x.kind = 5 ∧ 8 < x.text.size then 3 else 0
def St.empty : St := ⟨fun _ => [], fun _ _ => false, fun _ _ => none0, 0⟩
theorem spot_zero {d : Int} {s : ByteArray} (h : spot d s = 0) : isD d = true ∧ Img.isNmB s.toList = true := by
  unfold spot at h
  split at h
  · omega
  · split at h
    · omega
    · rename_i h1 h2
      exact ⟨by simpa using h1, by simpa using h2⟩
theorem isD_iff {d : Int} : isD d = true ↔ 0 ≤ d ∧ d < 3 := by simp [isD]
theorem chk_zero {x : Stp} (h : chk x = 0) : 1 ≤ x.kind ∧ x.kind ≤ 6 ∧ spot x.dir x.name = 0 ∧ (x.kind = 2 ∨ x.kind = 4 → spot x.toDir x.to = 0) ∧ (x.kind = 5 ∨ x.kind = 6 → 0 ≤ x.p ∧ x.p < 2) ∧ (x.kind = 5 → x.text.size ≤ 8) := by
  unfold chk at h
  split at h
  · omega
  · split at h
    · contradiction
    · split at h
      · refine ⟨by omega, by omega, by omega, fun _ => h, fun h5 => by omega, fun h5 => by omega⟩
      · split at h
        · omega
        · split at h
          · omega
          · refine ⟨by omega, by omega, by omega, fun h2 => by omega, fun h5 => by omega, fun h5 => by omega⟩
end Idl
end Go.Proofs.YtmbpckmpnnmnmacGreat
