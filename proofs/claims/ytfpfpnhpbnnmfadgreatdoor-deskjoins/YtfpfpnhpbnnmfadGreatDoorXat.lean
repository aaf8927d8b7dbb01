/-
  Files in memory: parts of rows that are stored.
-/
import Derived.Test.YtfpfpnhpbnnmfadGreatDoorXas
namespace Go.Proofs.YtfpfpnhpbnnmfadGreatDoor
open Go.RowKit
open Idl (Stp chk stpA)
section
variable {w0 w w' : World} {bf bc : Nat} {cs ds rows rows' : Array Value} {m k : Img} {last : Int}
theorem Fm.row' (h : Fm w0 w bf bc rows last) (rows' : Array Value) : Fm w0 (w.setRow bc rows') bf bc rows' last := by
  have hoth : ∀ i, i ≠ bc → (w.setRow bc rows').heap[i]? = w.heap[i]? := fun i hi => setRow_other _ _ _ _ hi
  have hsz : (w.setRow bc rows').heap.size = w.heap.size := by simp [World.setRow]
  exact ⟨by rw [hoth _ h.ne]; exact h.root, setRow_heap w bc _ _ _ _ h.row, h.ne, h.chg.trans (own' := fun i => i = bc) ⟨rfl, rfl, rfl, by rw [hsz]; exact Nat.le_refl _, fun i _ hn => hoth i hn⟩ (fun i hi => .inl (.inr hi))⟩
theorem splice5 (h : cs.size = 94) {n : Nat} (hn : n < 8) (i : Ino) : splice (cs ++ ds) (n * 5) #[.bool i.live, .int .i64 i.stamp, .int .i64 i.links, .int .i64 i.p0, .int .i64 i.p1] = put5v cs n i ++ ds := by
  refine Array.ext_getElem? fun j => ?_
  rw [splice_get (by simp; omega)]
  have e5 : (put5v cs n i).size = 94 := by unfold put5v; simp [h]
  rw [Array.getElem?_append, Array.getElem?_append, e5, h]
  unfold put5v
  simp only [List.size_toArray, List.length_cons, List.length_nil]
  by_cases h9 : j < 94
  · rw [if_pos h9, if_pos h9, set5_get (by omega)]
    by_cases a1 : j < n * 5
    · rw [if_pos a1, if_neg (by omega), if_neg (by omega), if_neg (by omega), if_neg (by omega), if_neg (by omega)]
    · rw [if_neg a1]
      by_cases a2 : j < n * 5 + 5
      · rw [if_pos (by omega)]
        have : j = n * 5 ∨ j = n * 5 + 1 ∨ j = n * 5 + 2 ∨ j = n * 5 + 3 ∨ j = n * 5 + 4 := by omega
        rcases this with rfl | rfl | rfl | rfl | rfl
        · rw [if_pos rfl, Nat.sub_self]; rfl
        · rw [if_neg (by omega), if_pos rfl, Nat.add_sub_cancel_left]; rfl
        · rw [if_neg (by omega), if_neg (by omega), if_pos rfl, Nat.add_sub_cancel_left]; rfl
        · rw [if_neg (by omega), if_neg (by omega), if_neg (by omega), if_pos rfl, Nat.add_sub_cancel_left]; rfl
        · rw [if_neg (by omega), if_neg (by omega), if_neg (by omega), if_neg (by omega), if_pos rfl, Nat.add_sub_cancel_left]; rfl
      · rw [if_neg (by omega), if_neg (by omega), if_neg (by omega), if_neg (by omega), if_neg (by omega), if_neg (by omega)]
  · rw [if_neg h9, if_neg h9, if_neg (by omega), if_neg (by omega)]
theorem splice3 (h : cs.size = 94) {d s : Nat} (hd : d < 3) (hs : s < 4) (e : Ent) : splice (cs ++ ds) (40 + d * 12 + s * 3) #[.string e.name, .int .i64 e.ino, .int .i64 e.est] = put3v cs d s e ++ ds := by
  refine Array.ext_getElem? fun j => ?_
  rw [splice_get (by simp; omega)]
  have e5 : (put3v cs d s e).size = 94 := by unfold put3v; simp [h]
  rw [Array.getElem?_append, Array.getElem?_append, e5, h]
  unfold put3v
  simp only [List.size_toArray, List.length_cons, List.length_nil]
  obtain ⟨o, ho⟩ : ∃ o, o = 40 + d * 12 + s * 3 := ⟨_, rfl⟩
  rw [← ho]
  have ho' : o + 3 ≤ 94 := by omega
  by_cases h9 : j < 94
  · rw [if_pos h9, if_pos h9, set3_get (by omega)]
    by_cases a1 : j < o
    · rw [if_pos a1, if_neg (by omega), if_neg (by omega), if_neg (by omega)]
    · rw [if_neg a1]
      by_cases a2 : j < o + 3
      · rw [if_pos (by omega)]
        have : j = o ∨ j = o + 1 ∨ j = o + 2 := by omega
        rcases this with rfl | rfl | rfl
        · rw [if_pos rfl, Nat.sub_self]; rfl
        · rw [if_neg (by omega), if_pos rfl, Nat.add_sub_cancel_left]; rfl
        · rw [if_neg (by omega), if_neg (by omega), if_pos rfl, Nat.add_sub_cancel_left]; rfl
      · rw [if_neg (by omega), if_neg (by omega), if_neg (by omega), if_neg (by omega)]
  · rw [if_neg h9, if_neg h9, if_neg (by omega), if_neg (by omega)]
theorem splice2 (h : cs.size = 94) {x : Nat} (hx : x < 9) (o : Int) (t : ByteArray) : splice (cs ++ ds) (76 + x * 2) #[.int .i64 o, .string t] = put2v cs x o t ++ ds := by
  refine Array.ext_getElem? fun j => ?_
  rw [splice_get (by simp; omega)]
  have e5 : (put2v cs x o t).size = 94 := by unfold put2v; simp [h]
  rw [Array.getElem?_append, Array.getElem?_append, e5, h]
  unfold put2v
  simp only [List.size_toArray, List.length_cons, List.length_nil]
  obtain ⟨q, hq⟩ : ∃ q, q = 76 + x * 2 := ⟨_, rfl⟩
  rw [← hq]
  have hq' : q + 2 ≤ 94 := by omega
  by_cases h9 : j < 94
  · rw [if_pos h9, if_pos h9, set2_get (by omega)]
    by_cases a1 : j < q
    · rw [if_pos a1, if_neg (by omega), if_neg (by omega)]
    · rw [if_neg a1]
      by_cases a2 : j < q + 2
      · rw [if_pos (by omega)]
        have : j = q ∨ j = q + 1 := by omega
        rcases this with rfl | rfl
        · rw [if_pos rfl, Nat.sub_self]; rfl
        · rw [if_neg (by omega), if_pos rfl, Nat.add_sub_cancel_left]; rfl
      · rw [if_neg (by omega), if_neg (by omega), if_neg (by omega)]
  · rw [if_neg h9, if_neg h9, if_neg (by omega), if_neg (by omega)]
/-- files that were changed: what is to be now -/
def Fd (w0 w : World) (bf bc : Nat) (ds : Array Value) (m : Img) (last : Int) : Prop := ∃ cs, Fm w0 w bf bc (cs ++ ds) last ∧ IsImg cs m
theorem Fl.fd (h : Fl w bf bc cs ds m k last) : Fd w w bf bc ds m last := ⟨cs, h.fm, h.now⟩
theorem Fd.fl (h : Fd w0 w bf bc ds m last) (hk : IsImg ds k) : ∃ cs, Fl w bf bc cs ds m k last := by
  obtain ⟨cs, h1, h2⟩ := h
  exact ⟨cs, h1.fl h2 hk⟩
theorem Fd.call (h : Fd w0 w bf bc ds m last) (hb : Below w.heap.size w w') : Fd w0 w' bf bc ds m last := by
  obtain ⟨cs, h1, h2⟩ := h
  exact ⟨cs, h1.call hb, h2⟩
theorem Fd.trans {w1 : World} {m1 : Img} {l1 : Int} (h : Fd w0 w1 bf bc ds m1 l1) (h2 : Fd w1 w bf bc ds m last) : Fd w0 w bf bc ds m last := by
  obtain ⟨cs1, a1, a2⟩ := h
  obtain ⟨cs2, b1, b2⟩ := h2
  exact ⟨cs2, ⟨b1.root, b1.row, b1.ne, a1.chg.trans b1.chg (fun i hi => .inl hi)⟩, b2⟩
theorem Fd.ino (h : Fm w0 w bf bc (cs ++ ds) last) (hm : IsImg cs m) {n : Nat} (hn : n < 8) (i : Ino) : Fd w0 (w.setRow bc (splice (cs ++ ds) (n * 5) #[.bool i.live, .int .i64 i.stamp, .int .i64 i.links, .int .i64 i.p0, .int .i64 i.p1])) bf bc ds (m.putIno n i) last := by
  rw [splice5 hm.size hn]
  exact ⟨_, h.row' _, hm.putIno hn i⟩
theorem Fd.ent (h : Fm w0 w bf bc (cs ++ ds) last) (hm : IsImg cs m) {d s : Nat} (hd : d < 3) (hs : s < 4) (e : Ent) (he : e.name.size ≤ maxLen) : Fd w0 (w.setRow bc (splice (cs ++ ds) (40 + d * 12 + s * 3) #[.string e.name, .int .i64 e.ino, .int .i64 e.est])) bf bc ds (m.putEnt d s e) last := by
  rw [splice3 hm.size hd hs]
  exact ⟨_, h.row' _, hm.putEnt hd hs e he⟩
theorem Fd.dat (h : Fm w0 w bf bc (cs ++ ds) last) (hm : IsImg cs m) {x : Nat} (hx : x < 9) (o : Int) (t : ByteArray) (ht : t.size ≤ maxLen) : Fd w0 (w.setRow bc (splice (cs ++ ds) (76 + x * 2) #[.int .i64 o, .string t])) bf bc ds (m.putData x o t) last := by
  rw [splice2 hm.size hx]
  exact ⟨_, h.row' _, hm.putData hx o t ht⟩
theorem Fd.part (h : Fm w0 w bf bc (cs ++ ds) last) (hm : IsImg cs m) {n p : Nat} (hn : n < 8) (hp : p < 2) (v : Int) : Fd w0 (w.setCell ⟨bc, n * 5 + 3 + p, none⟩ (.int .i64 v)) bf bc ds (m.setPart n p v) last :=
  ⟨_, h.put hm.size (by omega) _, hm.putPart hn hp v⟩
theorem Fd.lnk (h : Fm w0 w bf bc (cs ++ ds) last) (hm : IsImg cs m) {n : Nat} (hn : n < 8) (v : Int) : Fd w0 (w.setCell ⟨bc, n * 5 + 2, none⟩ (.int .i64 v)) bf bc ds (m.putIno n ⟨m.live n, m.stamp n, v, m.part n 0, m.part n 1⟩) last :=
  ⟨_, h.put hm.size (by omega) _, hm.putLinks hn v⟩
theorem sz_ino : (Tryz.prog.info? 68).map (·.size) = some 5 := by kernel_rfl
theorem sz_ent : (Tryz.prog.info? 71).map (·.size) = some 3 := by kernel_rfl
theorem sz_dat : (Tryz.prog.info? 75).map (·.size) = some 2 := by kernel_rfl
end
end Go.Proofs.YtfpfpnhpbnnmfadGreatDoor
namespace Go.Proofs.YtfpfpnhpbnnmfadGreatDoor
open Go.RowKit
open Idl (Stp chk stpA)
theorem ld_ino {o : Oper} {ρ : Operand → Value} (x : Operand) (ho : o.op = .load 68 x) {g : Nat} (hx : ρ x = .pointer (some ⟨g, 0, none⟩)) {b : Bool} {s l p q : Int} (w : World) (h : w.heap[g]? = some (.cells #[.bool b, .int .i64 s, .int .i64 l, .int .i64 p, .int .i64 q] 68)) : (execOp ρ o).run Tryz.prog w = .ok (.value (.agg #[.bool b, .int .i64 s, .int .i64 l, .int .i64 p, .int .i64 q])) w := by
  have c0 : w.cell? ⟨g, 0, none⟩ = some (.bool b) := by rw [cell_of_row w g 0 _ _ _ h]; rfl
  have c1 : w.cell? ⟨g, 1, none⟩ = some (.int .i64 s) := by rw [cell_of_row w g 1 _ _ _ h]; rfl
  have c2 : w.cell? ⟨g, 2, none⟩ = some (.int .i64 l) := by rw [cell_of_row w g 2 _ _ _ h]; rfl
  have c3 : w.cell? ⟨g, 3, none⟩ = some (.int .i64 p) := by rw [cell_of_row w g 3 _ _ _ h]; rfl
  have c4 : w.cell? ⟨g, 4, none⟩ = some (.int .i64 q) := by rw [cell_of_row w g 4 _ _ _ h]; rfl
  clear h
  unfold execOp
  rw [ho]
  go_simp
section
variable {w w0 w1 : World} {bf bc : Nat} {cs ds rows : Array Value} {m k : Img} {last : Int}
/-- a box of one's own beside the files: their two blocks stay as they are when it is written -/
theorem Fm.box (h : Fm w0 w bf bc rows last) {g : Nat} (hg : w0.heap.size ≤ g) (hgf : g ≠ bf) (hgc : g ≠ bc) (c : Array Value) : Fm w0 (w.setRow g c) bf bc rows last := by
  have hoth : ∀ i, i ≠ g → (w.setRow g c).heap[i]? = w.heap[i]? := fun i hi => setRow_other _ _ _ _ hi
  have hsz : (w.setRow g c).heap.size = w.heap.size := by simp [World.setRow]
  exact ⟨by rw [hoth _ (Ne.symm hgf)]; exact h.root, by rw [hoth _ (Ne.symm hgc)]; exact h.row, h.ne, h.chg.trans (own' := fun i => i = g) ⟨rfl, rfl, rfl, by rw [hsz]; exact Nat.le_refl _, fun i _ hn => hoth i hn⟩ (fun i hi => .inr (by rw [hi]; exact hg))⟩
theorem Fm.size (h : Fm w0 w bf bc rows last) : w0.heap.size ≤ w.heap.size := h.chg.size
theorem box_set {W : World} {g : Nat} {c : Array Value} {ty : TypeId} (h : W.heap[g]? = some (.cells c ty)) (o : Nat) (v : Value) : (W.setCell ⟨g, o, none⟩ v).heap[g]? = some (.cells (c.setIfInBounds o v) ty) := by
  rw [setCell_eq_setRow W g o _ _ _ v h, setRow_heap W g _ _ _ _ h]
theorem Fm.boxSet (h : Fm w0 w bf bc rows last) {g : Nat} {c : Array Value} {ty : TypeId} (hr : w.heap[g]? = some (.cells c ty)) (hg : w0.heap.size ≤ g) (hgf : g ≠ bf) (hgc : g ≠ bc) (o : Nat) (v : Value) : Fm w0 (w.setCell ⟨g, o, none⟩ v) bf bc rows last := by
  rw [setCell_eq_setRow w g o _ _ _ v hr]
  exact h.box hg hgf hgc _
set_option maxHeartbeats 2000000 in
set_option maxRecDepth 100000 in
theorem sstart_any (h : Fl w bf bc cs ds m k last) {n : Nat} (hn : n < 8) (he : Img.freeIno m k = (n : Int)) (hl0 : 0 ≤ last) (hla : last < 4611686018427387904) :
    Calls Tryz.prog 115 #[.pointer (some ⟨bf, 0, none⟩)] w fun e w' => e = .returned (.int .i64 ((n : Nat) : Int)) ∧ Fd w w' bf bc ds (Img.started m k last) (last + 1) := by
  have C1 := hide (cInode_any bc cs ds m k h.now h.disk w h.row)
  rw [he] at C1
  have e1 : Img.started m k last = m.putIno n ⟨true, last + 1, 0, -1, -1⟩ := by unfold Img.started; rw [he, Int.toNat_natCast]
  rw [e1]
  have HM := hide h.now
  have FM0 := hide h.fm
  have p0 := h.ptr
  have l0 := h.flt
  have hw : IntKind.i64.wrap (last + 1) = last + 1 := IntWalk.i64_in _ (by omega)
  have HLT := hide (And.intro h.flt h.clt)
  clear h he e1
  go_enter Tryz.func115, Tryz.ntmps115
  go_wp2_with fail
  refine (unhide C1).mono ?_
  rintro e w1 ⟨rfl, b1⟩
  have FM1 := hide ((unhide FM0).call b1)
  have q1 := (unhide FM1).lst
  have z1 := (unhide FM1).frozenF 1
  have l1 := (unhide FM1).flt
  clear b1 p0 l0
  go_wp2_with fail
  have FM2 := hide ((unhide FM1).setLast (last + 1))
  clear q1 z1 l1 FM1
  generalize w1.setCell ⟨bf, 1, none⟩ (.int .i64 (last + 1)) = w2 at FM2 ⊢
  refine (free_any w2).mono ?_
  rintro e w3 ⟨rfl, b3⟩
  have FM3 := hide ((unhide FM2).call b3)
  have GT := hide (And.intro (Nat.lt_of_lt_of_le (unhide HLT).1 (Nat.le_trans (unhide FM2).size b3.size)) (Nat.lt_of_lt_of_le (unhide HLT).2 (Nat.le_trans (unhide FM2).size b3.size)))
  clear b3 FM2
  go_wp2_with (refine wpList_store_row rfl 68 _ _ rfl w3.heap.size #[.bool false, .int .i64 0, .int .i64 0, .int .i64 (-1), .int .i64 (-1)] rfl rfl 68 #[.bool false, .int .i64 0, .int .i64 0, .int .i64 0, .int .i64 0] (heap_alloc_last w3 _) sz_ino rfl (by kernel_rfl) ?_)
  have ROW := hide (setRow_heap _ _ _ #[.bool false, .int .i64 0, .int .i64 0, .int .i64 (-1), .int .i64 (-1)] _ _ (heap_alloc_last w3 (.cells #[.bool false, .int .i64 0, .int .i64 0, .int .i64 0, .int .i64 0] 68)))
  have FM4 := hide (((unhide FM3).call ((Below.refl _ _).alloc (Nat.le_refl _) (.cells #[.bool false, .int .i64 0, .int .i64 0, .int .i64 0, .int .i64 0] 68))).box (g := w3.heap.size) (unhide FM3).size (Nat.ne_of_gt (unhide GT).1) (Nat.ne_of_gt (unhide GT).2) #[.bool false, .int .i64 0, .int .i64 0, .int .i64 (-1), .int .i64 (-1)])
  have NE := hide (And.intro (Nat.ne_of_gt (unhide GT).1) (And.intro (Nat.ne_of_gt (unhide GT).2) (unhide FM3).size))
  generalize (w3.alloc (.cells #[.bool false, .int .i64 0, .int .i64 0, .int .i64 0, .int .i64 0] 68)).setRow w3.heap.size #[.bool false, .int .i64 0, .int .i64 0, .int .i64 (-1), .int .i64 (-1)] = X at ROW FM4 ⊢
  generalize w3.heap.size = gb at ROW NE ⊢
  clear FM3 GT
  have FM5 := hide ((unhide FM4).call (Below.refl _ _).drew)
  have ROW5 := hide (show X.drew.heap[gb]? = _ from unhide ROW)
  clear FM4 ROW
  refine wp_region_held_drew (S := fun W => W.cell? ⟨bf, 1, none⟩ = some (.int .i64 (last + 1))) (by kernel_rfl) ((unhide FM5).lst) (fun hS => ?_)
  refine wpAnyH_take (i := 0) (oi := { dst := some 18, op := Op.move (Operand.tmp 0), type := 60, pos := "soft.go:156", after := #[{ on := 5, ground := Ground.gcOnly Departure.lateStores }], guard := none }) (v := .pointer (some ⟨bf, 0, none⟩)) rfl (by kernel_rfl) (by kernel_rfl) (by kernel_rfl) (fun _ _ _ h => h) (Or.inl ⟨by kernel_rfl, fun W h => (by first | kernel_rfl | go_simp)⟩) hS ?_
  try simp only [Act.put, List.setIfInBounds_toArray, List.set_cons_zero, List.set_cons_succ]
  refine wpAnyH_take (i := 1) (oi := { dst := some 19, op := Op.nilCheck (Operand.tmp 18), type := 0, pos := "soft.go:156", after := #[{ on := 0, ground := Ground.data }, { on := 5, ground := Ground.gcOnly Departure.lateStores }], guard := none }) (v := .pointer (some ⟨bf, 0, none⟩)) rfl (by kernel_rfl) (by kernel_rfl) (by kernel_rfl) (fun _ _ _ h => h) (Or.inl ⟨by kernel_rfl, fun W h => (by first | kernel_rfl | go_simp)⟩) hS ?_
  try simp only [Act.put, List.setIfInBounds_toArray, List.set_cons_zero, List.set_cons_succ]
  refine wpAnyH_take (i := 2) (oi := { dst := some 20, op := Op.fieldAddr 114 (Operand.tmp 19) 1, type := 0, pos := "soft.go:156", after := #[{ on := 1, ground := Ground.data }, { on := 5, ground := Ground.gcOnly Departure.lateStores }], guard := none }) (v := .pointer (some ⟨bf, 1, none⟩)) rfl (by kernel_rfl) (by kernel_rfl) (by kernel_rfl) (fun _ _ _ h => h) (Or.inl ⟨by kernel_rfl, fun W h => (by first | kernel_rfl | go_simp)⟩) hS ?_
  try simp only [Act.put, List.setIfInBounds_toArray, List.set_cons_zero, List.set_cons_succ]
  refine wpAnyH_take (i := 3) (oi := { dst := some 21, op := Op.load 3 (Operand.tmp 20), type := 3, pos := "soft.go:156", after := #[{ on := 2, ground := Ground.data }, { on := 5, ground := Ground.gcOnly Departure.lateStores }], guard := none }) (v := .int .i64 (last + 1)) rfl (by kernel_rfl) (by kernel_rfl) (by kernel_rfl) (fun _ _ _ h => h) (Or.inl ⟨by kernel_rfl, fun W h => Op1.ld_int (.tmp 20) (by kernel_rfl) (by kernel_rfl) W (h)⟩) hS ?_
  try simp only [Act.put, List.setIfInBounds_toArray, List.set_cons_zero, List.set_cons_succ]
  refine wpAnyH_take (i := 4) (oi := { dst := some 22, op := Op.fieldAddr 68 (Operand.tmp 4) 0, type := 0, pos := "soft.go:156", after := #[{ on := 0, ground := Ground.textOnly Departure.lateStores }, { on := 1, ground := Ground.textOnly Departure.lateStores }, { on := 2, ground := Ground.textOnly Departure.lateStores }, { on := 3, ground := Ground.textOnly Departure.lateStores }], guard := none }) (v := .pointer (some ⟨gb, 0, none⟩)) rfl (by kernel_rfl) (by kernel_rfl) (by kernel_rfl) (fun _ _ _ h => h) (Or.inl ⟨by kernel_rfl, fun W h => (by first | kernel_rfl | go_simp)⟩) hS ?_
  try simp only [Act.put, List.setIfInBounds_toArray, List.set_cons_zero, List.set_cons_succ]
  generalize World.drew _ = W0 at hS FM5 ROW5 ⊢
  refine wpAnyH_ready (rs := [5]) (by kernel_rfl) (by simp) ?_
  refine AllReadyH.cons (o := { dst := none, op := Op.store 4 (Operand.tmp 22) (Operand.const (Value.bool true)), type := 0, pos := "soft.go:156", after := #[{ on := 4, ground := Ground.data }, { on := 0, ground := Ground.textOnly Departure.lateStores }, { on := 1, ground := Ground.textOnly Departure.lateStores }, { on := 2, ground := Ground.textOnly Departure.lateStores }, { on := 3, ground := Ground.textOnly Departure.lateStores }], guard := none }) rfl (fun K hK => ?_) AllReadyH.nil
  rw [if_pos (by kernel_rfl)]
  refine Op1.st_bool (v := true) (.tmp 22) (.const (.bool true)) (by kernel_rfl) rfl (by kernel_rfl) (by kernel_rfl) (by rw [cell_of_row W0 gb 0 _ _ _ (unhide ROW5)]; rfl) (frozen_of_row W0 gb 0 _ _ (unhide ROW5)) ?_
  have ROW6 := hide (box_set (unhide ROW5) 0 (.bool true))
  have FM6 := hide ((unhide FM5).boxSet (unhide ROW5) (unhide NE).2.2 (unhide NE).1 (unhide NE).2.1 0 (.bool true))
  refine hK.out _ _ ((unhide FM6).lst) (fun hS1 => ?_)
  clear hK K
  try simp only [Act.put, List.setIfInBounds_toArray, List.set_cons_zero, List.set_cons_succ]
  generalize W0.setCell ⟨gb, 0, none⟩ (.bool true) = W1 at hS1 ROW6 FM6 ⊢
  refine wpAnyH_take (i := 6) (oi := { dst := some 23, op := Op.fieldAddr 68 (Operand.tmp 4) 1, type := 0, pos := "soft.go:156", after := #[{ on := 0, ground := Ground.phase }, { on := 1, ground := Ground.phase }, { on := 2, ground := Ground.phase }, { on := 3, ground := Ground.phase }, { on := 4, ground := Ground.phase }, { on := 5, ground := Ground.phase }], guard := none }) (v := .pointer (some ⟨gb, 1, none⟩)) rfl (by kernel_rfl) (by kernel_rfl) (by kernel_rfl) (fun _ _ _ h => h) (Or.inl ⟨by kernel_rfl, fun W h => (by first | kernel_rfl | go_simp)⟩) hS1 ?_
  try simp only [Act.put, List.setIfInBounds_toArray, List.set_cons_zero, List.set_cons_succ]
  refine wpAnyH_ready (rs := [7]) (by kernel_rfl) (by simp) ?_
  refine AllReadyH.cons (o := { dst := none, op := Op.store 3 (Operand.tmp 23) (Operand.tmp 21), type := 0, pos := "soft.go:156", after := #[{ on := 6, ground := Ground.data }, { on := 3, ground := Ground.data }, { on := 5, ground := Ground.chain }, { on := 0, ground := Ground.phase }, { on := 1, ground := Ground.phase }, { on := 2, ground := Ground.phase }, { on := 3, ground := Ground.phase }, { on := 4, ground := Ground.phase }, { on := 5, ground := Ground.phase }], guard := none }) rfl (fun K hK => ?_) AllReadyH.nil
  rw [if_pos (by kernel_rfl)]
  refine Op1.st_int (v := last + 1) (.tmp 23) (.tmp 21) (by kernel_rfl) rfl (by kernel_rfl) (by kernel_rfl) (by rw [cell_of_row W1 gb 1 _ _ _ (unhide ROW6)]; rfl) (frozen_of_row W1 gb 1 _ _ (unhide ROW6)) ?_
  have ROW7 := hide (box_set (unhide ROW6) 1 (.int .i64 (last + 1)))
  have FM7 := hide ((unhide FM6).boxSet (unhide ROW6) (unhide NE).2.2 (unhide NE).1 (unhide NE).2.1 1 (.int .i64 (last + 1)))
  refine hK.out _ _ ((unhide FM7).lst) (fun hS2 => ?_)
  clear hK K
  try simp only [Act.put, List.setIfInBounds_toArray, List.set_cons_zero, List.set_cons_succ]
  generalize W1.setCell ⟨gb, 1, none⟩ (.int .i64 (last + 1)) = W2 at hS2 ROW7 FM7 ⊢
  refine wpAnyH_done (by kernel_rfl) ?_ _
  clear hS hS1 hS2 ROW5 ROW6 FM5 FM6
  go_wp2_with fail
  have FM8 := hide ((unhide FM7).call (Below.refl _ _).drew)
  have ROW8 := hide (show W2.drew.heap[gb]? = some (.cells #[.bool true, .int .i64 (last + 1), .int .i64 0, .int .i64 (-1), .int .i64 (-1)] 68) from unhide ROW7)
  clear FM7 ROW7
  refine wp_region_F (S := fun W => W.cell? ⟨bf, 0, none⟩ = some (.pointer (some ⟨bc, 0, none⟩)) ∧ W.heap[gb]? = some (.cells #[.bool true, .int .i64 (last + 1), .int .i64 0, .int .i64 (-1), .int .i64 (-1)] 68)) 10 (by kernel_rfl) (⟨(unhide FM8).ptr, unhide ROW8⟩) (fun hS => ?_)
  refine wpAnyF_take (i := 0) (oi := { dst := some 24, op := Op.move (Operand.tmp 0), type := 60, pos := "soft.go:157", after := #[], guard := none }) (v := .pointer (some ⟨bf, 0, none⟩)) rfl (by kernel_rfl) (by kernel_rfl) (by kernel_rfl) (by kernel_rfl) (fun _ _ _ h => h) (Or.inl ⟨by kernel_rfl, fun W h => (by first | kernel_rfl | go_simp)⟩) hS ?_
  try simp only [Act.put, List.setIfInBounds_toArray, List.set_cons_zero, List.set_cons_succ]
  refine wpAnyF_take (i := 1) (oi := { dst := some 25, op := Op.nilCheck (Operand.tmp 24), type := 0, pos := "soft.go:157", after := #[{ on := 0, ground := Ground.data }], guard := none }) (v := .pointer (some ⟨bf, 0, none⟩)) rfl (by kernel_rfl) (by kernel_rfl) (by kernel_rfl) (by kernel_rfl) (fun _ _ _ h => h) (Or.inl ⟨by kernel_rfl, fun W h => (by first | kernel_rfl | go_simp)⟩) hS ?_
  try simp only [Act.put, List.setIfInBounds_toArray, List.set_cons_zero, List.set_cons_succ]
  refine wpAnyF_take (i := 2) (oi := { dst := some 26, op := Op.fieldAddr 114 (Operand.tmp 25) 0, type := 0, pos := "soft.go:157", after := #[{ on := 1, ground := Ground.data }], guard := none }) (v := .pointer (some ⟨bf, 0, none⟩)) rfl (by kernel_rfl) (by kernel_rfl) (by kernel_rfl) (by kernel_rfl) (fun _ _ _ h => h) (Or.inl ⟨by kernel_rfl, fun W h => (by first | kernel_rfl | go_simp)⟩) hS ?_
  try simp only [Act.put, List.setIfInBounds_toArray, List.set_cons_zero, List.set_cons_succ]
  refine wpAnyF_take (i := 3) (oi := { dst := some 27, op := Op.load 111 (Operand.tmp 26), type := 111, pos := "soft.go:157", after := #[{ on := 2, ground := Ground.data }], guard := none }) (v := .pointer (some ⟨bc, 0, none⟩)) rfl (by kernel_rfl) (by kernel_rfl) (by kernel_rfl) (by kernel_rfl) (fun _ _ _ h => h) (Or.inl ⟨by kernel_rfl, fun W h => Op1.ld_ptr (.tmp 26) (by kernel_rfl) (by kernel_rfl) W (h.1)⟩) hS ?_
  try simp only [Act.put, List.setIfInBounds_toArray, List.set_cons_zero, List.set_cons_succ]
  refine wpAnyF_take (i := 4) (oi := { dst := some 28, op := Op.move (Operand.tmp 3), type := 3, pos := "soft.go:157", after := #[], guard := none }) (v := .int .i64 ((n : Nat) : Int)) rfl (by kernel_rfl) (by kernel_rfl) (by kernel_rfl) (by kernel_rfl) (fun _ _ _ h => h) (Or.inl ⟨by kernel_rfl, fun W h => (by first | kernel_rfl | go_simp)⟩) hS ?_
  try simp only [Act.put, List.setIfInBounds_toArray, List.set_cons_zero, List.set_cons_succ]
  refine wpAnyF_take (i := 5) (oi := { dst := some 29, op := Op.load 68 (Operand.tmp 4), type := 68, pos := "soft.go:157", after := #[], guard := none }) (v := .agg #[.bool true, .int .i64 (last + 1), .int .i64 0, .int .i64 (-1), .int .i64 (-1)]) rfl (by kernel_rfl) (by kernel_rfl) (by kernel_rfl) (by kernel_rfl) (fun _ _ _ h => h) (Or.inl ⟨by kernel_rfl, fun W h => ld_ino (.tmp 4) (by kernel_rfl) (by kernel_rfl) W h.2⟩) hS ?_
  try simp only [Act.put, List.setIfInBounds_toArray, List.set_cons_zero, List.set_cons_succ]
  refine wpAnyF_free (i := 6) (oi := { dst := some 30, op := Op.nilCheck (Operand.tmp 27), type := 0, pos := "soft.go:157", after := #[{ on := 3, ground := Ground.data }], guard := none }) (v := .pointer (some ⟨bc, 0, none⟩)) rfl (by kernel_rfl) (by kernel_rfl) (by kernel_rfl) (by kernel_rfl) (fun _ _ _ h => h) (Or.inl ⟨by kernel_rfl, fun W _ => (by first | kernel_rfl | go_simp)⟩) hS ?_
  try simp only [Act.put, List.setIfInBounds_toArray, List.set_cons_zero, List.set_cons_succ]
  refine wpAnyF_free (i := 7) (oi := { dst := some 31, op := Op.fieldAddr 141 (Operand.tmp 30) 0, type := 0, pos := "soft.go:157", after := #[{ on := 6, ground := Ground.data }], guard := none }) (v := .pointer (some ⟨bc, 0, none⟩)) rfl (by kernel_rfl) (by kernel_rfl) (by kernel_rfl) (by kernel_rfl) (fun _ _ _ h => h) (Or.inl ⟨by kernel_rfl, fun W _ => (by first | kernel_rfl | go_simp)⟩) hS ?_
  try simp only [Act.put, List.setIfInBounds_toArray, List.set_cons_zero, List.set_cons_succ]
  refine wpAnyF_free (i := 8) (oi := { dst := some 32, op := Op.fieldAddr 78 (Operand.tmp 31) 0, type := 0, pos := "soft.go:157", after := #[{ on := 7, ground := Ground.data }], guard := none }) (v := .pointer (some ⟨bc, 0, none⟩)) rfl (by kernel_rfl) (by kernel_rfl) (by kernel_rfl) (by kernel_rfl) (fun _ _ _ h => h) (Or.inl ⟨by kernel_rfl, fun W _ => (by first | kernel_rfl | go_simp)⟩) hS ?_
  try simp only [Act.put, List.setIfInBounds_toArray, List.set_cons_zero, List.set_cons_succ]
  refine wpAnyF_take (i := 9) (oi := { dst := some 33, op := Op.indexAddr 69 (Operand.tmp 32) (Operand.tmp 28), type := 0, pos := "soft.go:157", after := #[{ on := 8, ground := Ground.data }, { on := 4, ground := Ground.data }, { on := 0, ground := Ground.phase }, { on := 1, ground := Ground.phase }, { on := 2, ground := Ground.phase }, { on := 3, ground := Ground.phase }, { on := 4, ground := Ground.phase }, { on := 5, ground := Ground.phase }], guard := none }) (v := .pointer (some ⟨bc, n * 5, none⟩)) rfl (by kernel_rfl) (by kernel_rfl) (by kernel_rfl) (by kernel_rfl) (fun _ _ _ h => h) (Or.inl ⟨by kernel_rfl, fun W h => Op1.ix_ino (.tmp 32) (.tmp 28) (by kernel_rfl) (by kernel_rfl) (by kernel_rfl) (hn) W⟩) hS ?_
  try simp only [Act.put, List.setIfInBounds_toArray, List.set_cons_zero, List.set_cons_succ]
  generalize World.drew _ = W3 at hS FM8 ⊢
  refine wpAnyF_last (o := { dst := none, op := Op.store 68 (Operand.tmp 33) (Operand.tmp 29), type := 0, pos := "soft.go:157", after := #[{ on := 9, ground := Ground.data }, { on := 5, ground := Ground.data }, { on := 0, ground := Ground.phase }, { on := 1, ground := Ground.phase }, { on := 2, ground := Ground.phase }, { on := 3, ground := Ground.phase }, { on := 4, ground := Ground.phase }, { on := 5, ground := Ground.phase }], guard := none }) (by kernel_rfl) rfl (by kernel_rfl) (by kernel_rfl) (fun K hK => ?_)
  refine Op1.st_part (cells := #[.bool true, .int .i64 (last + 1), .int .i64 0, .int .i64 (-1), .int .i64 (-1)]) (o0 := n * 5) 68 (.tmp 33) (.tmp 29) (by kernel_rfl) rfl (by kernel_rfl) (by kernel_rfl) (unhide FM8).row sz_ino (by have := (unhide HM).size; simp; omega) (by kernel_rfl) ?_
  refine hK.out _ _ ?_
  clear hK K
  try simp only [Act.put, List.setIfInBounds_toArray, List.set_cons_zero, List.set_cons_succ]
  refine wpAnyF_done (by kernel_rfl) ?_ _
  have DONE := hide (Fd.ino (unhide FM8) (unhide HM) hn ⟨true, last + 1, 0, -1, -1⟩)
  clear hS
  go_wp2_with fail
  go_ret
  exact ⟨rfl, unhide DONE⟩
end
end Go.Proofs.YtfpfpnhpbnnmfadGreatDoor
