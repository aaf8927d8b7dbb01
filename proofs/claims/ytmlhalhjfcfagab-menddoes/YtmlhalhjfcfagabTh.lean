/-
  Images in boxes; the walk of eiderdownlaw.safeBegun.
-/
import Derived.Test.YtmlhalhjfcfagabTf
namespace Go.Proofs.Ytmlhalhjfcfagab
open Go.RowKit
theorem wpList_load_row_g {P : Program} {ops : Array Oper} {rest : List Oper} {o : Oper} {a : Act} {w : World} {Q : Exit → Act → World → Prop} (hw : Region.wanted o (yielded ops a.tmps) = true) (ty : TypeId) (x : Operand) (ho : o.op = .load ty x)
    (g : Nat) (hx : a.eval x = .pointer (some ⟨g, 0, none⟩)) (t : TypeId) (cs : Array Value) (fr : Nat × Nat) (d : TypeDesc) (hg : w.heap[g]? = some (.cells cs t fr))
    (hu : P.underlying ty = some d) (hd : (match d with | .struct _ | .array _ _ => true | _ => false) = true) (hi : (P.info? ty).map (·.size) = some cs.size)
    (h : wpList P ops Q rest (a.put o.dst (.agg cs)) w) : wpList P ops Q (o :: rest) a w :=
  BigFrame.wpList_want hw fun _ hK => wp_load_row ty x ho g hx t cs fr d hg hu hd hi (hK _ _ h)
/-- boxes of images, all of them new -/
structure Boxes (w wr : World) (l : List (Nat × Array Value)) : Prop where
  below : Below w.heap.size w wr
  lo : ∀ p ∈ l, w.heap.size ≤ p.1
  row : ∀ p ∈ l, wr.heap[p.1]? = some (.cells p.2 34)
section
variable {w wr w1 : World} {l : List (Nat × Array Value)}
theorem Boxes.hi (h : Boxes w wr l) {p : Nat × Array Value} (hp : p ∈ l) : p.1 < wr.heap.size := (Array.getElem?_eq_some_iff.1 (h.row p hp)).1
theorem Boxes.call (h : Boxes w wr l) (hb : Below wr.heap.size wr w1) : Boxes w w1 l :=
  ⟨h.below.trans (hb.mono h.below.size), h.lo, fun p hp => by rw [hb.block _ (h.hi hp)]; exact h.row p hp⟩
theorem Boxes.new (h : Boxes w wr l) (c : Array Value) : Boxes w ((wr.alloc (.cells zeroCells 34)).setRow wr.heap.size c) ((wr.heap.size, c) :: l) := by
  refine ⟨below_setRow (h.below.alloc h.below.size _) h.below.size _, fun p hp => ?_, fun p hp => ?_⟩
  · rcases List.mem_cons.1 hp with e | e
    · subst e; exact h.below.size
    · exact h.lo p e
  · rcases List.mem_cons.1 hp with e | e
    · subst e; exact setRow_heap _ _ _ _ _ _ (heap_alloc_last _ _)
    · have := h.hi e
      rw [setRow_other _ _ _ _ (by omega), Below.heap_alloc _ _ _ (by omega)]; exact h.row p e
theorem Boxes.box (h : Boxes w wr l) (c : Array Value) : Boxes w (wr.alloc (.cells c 34)) ((wr.heap.size, c) :: l) := by
  refine ⟨h.below.alloc h.below.size _, fun p hp => ?_, fun p hp => ?_⟩
  · rcases List.mem_cons.1 hp with e | e
    · subst e; exact h.below.size
    · exact h.lo p e
  · rcases List.mem_cons.1 hp with e | e
    · subst e; exact heap_alloc_last _ _
    · have := h.hi e
      rw [Below.heap_alloc _ _ _ (by omega)]; exact h.row p e
theorem Boxes.two (h : Boxes w wr l) (a b : Array Value) : Boxes w ((((wr.alloc (.cells zeroCells 34)).alloc (.cells zeroCells 34)).setRow wr.heap.size a).setRow (wr.heap.size + 1) b) ((wr.heap.size + 1, b) :: (wr.heap.size, a) :: l) := by
  have hz := h.below.size
  refine ⟨below_setRow (below_setRow ((h.below.alloc hz _).alloc (by simp; omega) _) hz _) (by omega) _, fun p hp => ?_, fun p hp => ?_⟩
  · rcases List.mem_cons.1 hp with e | e
    · subst e; show w.heap.size ≤ wr.heap.size + 1; omega
    · rcases List.mem_cons.1 e with e | e
      · subst e; exact hz
      · exact h.lo p e
  · rcases List.mem_cons.1 hp with e | e
    · subst e; exact setRow_heap _ _ _ _ _ _ (by rw [setRow_other _ _ _ _ (by omega)]; exact heap_alloc2_new _ _ _)
    · rcases List.mem_cons.1 e with e | e
      · subst e
        rw [setRow_other _ _ _ _ (by simp)]; exact setRow_heap _ _ _ _ _ _ (heap_alloc2_old _ _ _)
      · have := h.hi e
        rw [setRow_other _ _ _ _ (by omega), setRow_other _ _ _ _ (by omega), Below.heap_alloc _ _ _ (by simp; omega), Below.heap_alloc _ _ _ (by omega)]; exact h.row p e
theorem Boxes.start (w : World) : Boxes w w [] := ⟨Below.refl _ _, fun _ h => by simp at h, fun _ h => by simp at h⟩
theorem Boxes.set {g : Nat} {c : Array Value} (h : Boxes w wr ((g, c) :: l)) (hg : ∀ p ∈ l, p.1 ≠ g) (i : Nat) (v : Value) : Boxes w (wr.setCell ⟨g, i, none⟩ v) ((g, c.setIfInBounds i v) :: l) := by
  have h0 := h.lo (g, c) (by simp)
  refine ⟨h.below.setCell (by exact h0) _, fun p hp => ?_, fun p hp => ?_⟩
  · rcases List.mem_cons.1 hp with e | e
    · subst e; exact h0
    · exact h.lo p (by simp [e])
  · rcases List.mem_cons.1 hp with e | e
    · subst e; exact heap_setCell_same _ _ _ _ _ _ (h.row (g, c) (by simp))
    · have := hg p e
      rw [heap_setCell_other _ _ _ _ (by simp; omega)]; exact h.row p (by simp [e])
theorem Boxes.draw (h : Boxes w wr l) (q : Nat) : Boxes w (wr.drewN q) l := h.call (belowN (Below.refl _ _))
theorem Boxes.is (h : Boxes w wr l) {g : Nat} {c : Array Value} (hp : (g, c) ∈ l) {m : Img} (hi : IsImg c m) : Row wr g m := ⟨c, h.row (g, c) hp, hi⟩
theorem Boxes.has (h : Boxes w wr l) {g : Nat} {c : Array Value} (hp : (g, c) ∈ l) {m : Img} (hi : IsImg c m) : HasImg wr g m := (h.is hp hi).has
theorem Boxes.fz (h : Boxes w wr l) {g : Nat} {c : Array Value} (hp : (g, c) ∈ l) (i : Nat) : wr.frozen? ⟨g, i, none⟩ = false := frozen_of_row _ _ _ _ _ (h.row (g, c) hp)
theorem Boxes.tail {p : Nat × Array Value} (h : Boxes w wr (p :: l)) : Boxes w wr l := ⟨h.below, fun q hq => h.lo q (by simp [hq]), fun q hq => h.row q (by simp [hq])⟩
end
theorem zero_size {cs : Array Value} {m : Img} (h : IsImg cs m) : zeroCells.size = cs.size := by rw [h.size]; exact size_newTo 0
def oneI : Img := imgOf oneCells
def blankI : Img := imgOf blankCells
theorem one_is : IsImg oneCells oneI := one_kinds.isImg
theorem blank_kinds : Kinds blankCells := .of size_blank (by kernel_rfl)
theorem blank_is : IsImg blankCells blankI := blank_kinds.isImg
def agreeB (a b : Img) : Bool :=
  ((List.range 8).all fun n => a.live n == b.live n && a.stamp n == b.stamp n && a.links n == b.links n && a.part n 0 == b.part n 0 && a.part n 1 == b.part n 1) &&
  ((List.range 3).all fun d => (List.range 4).all fun s => (a.name d s).toList == (b.name d s).toList && a.ino d s == b.ino d s && a.est d s == b.est d s) &&
  ((List.range 9).all fun x => a.of x == b.of x && (a.text x).toList == (b.text x).toList)
theorem agree_of {a b : Img} (h : agreeB a b = true) : Img.Agree a b := by
  unfold agreeB at h
  simp only [Bool.and_eq_true, List.all_eq_true, List.mem_range, beq_iff_eq] at h
  obtain ⟨⟨h1, h2⟩, h3⟩ := h
  refine ⟨fun n hn => (h1 n hn).1.1.1.1, fun n hn => (h1 n hn).1.1.1.2, fun n hn => (h1 n hn).1.1.2, fun n p hn hp => ?_, fun d s hd hs => Img.bytes_ext (h2 d hd s hs).1.1, fun d s hd hs => (h2 d hd s hs).1.2, fun d s hd hs => (h2 d hd s hs).2, fun x hx => (h3 x hx).1, fun x hx => Img.bytes_ext (h3 x hx).2⟩
  match p, hp with
  | 0, _ => exact (h1 n hn).1.2
  | 1, _ => exact (h1 n hn).2
theorem begun_a : Img.Agree (Img.write oneI blankI 3) blankI := agree_of (by kernel_rfl)
def begunC : Img := (Img.write oneI blankI 0).putData 3 5 ⟨#[120]⟩
theorem begun_b : (Img.write oneI blankI 0).live 2 = true ∧ (Img.write oneI blankI 0).part 2 1 = -1 := ⟨by kernel_rfl, by kernel_rfl⟩
theorem begun_d : (Img.write oneI begunC 3).name 1 2 = ⟨#[97]⟩ := by kernel_rfl
theorem begun_u : Img.uni oneI blankI 2 = 1 := by kernel_rfl
theorem begun_n : oneI.of 3 = 5 ∧ oneI.text 3 = ⟨#[120]⟩ := ⟨by kernel_rfl, by kernel_rfl⟩
theorem begun_k : kindS 3 = ⟨#[100, 105, 114]⟩ ∧ kindN 3 = 1 := ⟨by kernel_rfl, by kernel_rfl⟩
theorem begun_in : Img.inB 3 = true ∧ Img.inB 0 = true ∧ Img.inB 99 = false := by decide
set_option maxRecDepth 100000 in
set_option maxHeartbeats 2000000 in
theorem safeBegun_any (w : World) :
    Calls Try.prog 10 #[] w fun e w' => e = .returned (.bool true) ∧ Below w.heap.size w w' := by
  have z := zero_img.1
  have qb := eq_blank
  go_enter Try.func10, Try.ntmps10
  go_wp2_with fail
  refine (one_any _).mono ?_
  rintro e w1 ⟨rfl, hb1⟩
  go_wp2_with fail
  refine (blank_any _).mono ?_
  rintro e w2 ⟨rfl, hb2⟩
  have B2 := hide (((Boxes.start w).call hb1).call hb2)
  clear hb1 hb2
  have h0 := hide (heap_alloc2_old w2 (.cells zeroCells 34) (.cells zeroCells 34))
  have h1 := hide (show (((w2.alloc (.cells zeroCells 34)).alloc (.cells zeroCells 34)).setRow w2.heap.size oneCells).heap[w2.heap.size + 1]? = some (.cells zeroCells 34) by rw [setRow_other _ _ _ _ (by omega)]; exact heap_alloc2_new _ _ _)
  go_wp2_with (first | (have hx := unhide h0; refine wpList_store_row rfl 34 _ _ rfl w2.heap.size oneCells rfl rfl 34 zeroCells hx (img_info size_one) (zero_size one_is) one_all ?_; clear hx h0) | (have hx := unhide h1; refine wpList_store_row rfl 34 _ _ rfl (w2.heap.size + 1) blankCells rfl rfl 34 zeroCells hx (img_info size_blank) (zero_size blank_is) blank_all ?_; clear hx h1))
  have B4 := hide ((unhide B2).two oneCells blankCells)
  clear B2
  generalize (((w2.alloc (.cells zeroCells 34)).alloc (.cells zeroCells 34)).setRow w2.heap.size oneCells).setRow (w2.heap.size + 1) blankCells = X2 at B4 ⊢
  generalize w2.heap.size + 1 = gk at B4 ⊢
  generalize w2.heap.size = gn at B4 ⊢
  refine (write_any gn gk oneI blankI 3 _ ((unhide B4).has (by simp) one_is) ((unhide B4).is (by simp) blank_is)).mono ?_
  rw [begun_in.1]
  rintro e wa ⟨⟨ca, rfl, ha⟩, hba⟩
  have Ba0 := hide ((unhide B4).call hba)
  clear hba B4
  have sa := hide (heap_alloc_last wa (.cells zeroCells 34))
  go_wp2_with (have hx := unhide sa; refine wpList_store_row rfl 34 _ _ rfl wa.heap.size ca rfl rfl 34 zeroCells hx (img_info ha.size) (zero_size ha) ha.all ?_; clear hx sa)
  have Ba := hide ((unhide Ba0).new ca)
  have na := (unhide Ba0).below.size
  have la := fun p hp => (unhide Ba0).hi (p := p) hp
  clear Ba0
  generalize (wa.alloc (.cells zeroCells 34)).setRow wa.heap.size ca = Xa at Ba ⊢
  generalize wa.heap.size = ga at Ba na la ⊢
  obtain rfl : ca = blankCells := ha.agree blank_is begun_a
  refine (write_any gn gk oneI blankI 0 _ ((unhide Ba).has (by simp) one_is) ((unhide Ba).is (by simp) blank_is)).mono ?_
  rw [begun_in.2.1]
  rintro e wb ⟨⟨cb, rfl, hb⟩, hbb⟩
  have Bb0 := hide ((unhide Ba).call hbb)
  clear hbb Ba
  have sb := hide (heap_alloc_last wb (.cells zeroCells 34))
  go_wp2_with (have hx := unhide sb; refine wpList_store_row rfl 34 _ _ rfl wb.heap.size cb rfl rfl 34 zeroCells hx (img_info hb.size) (zero_size hb) hb.all ?_; clear hx sb)
  have Bb := hide ((unhide Bb0).new cb)
  have nb := (unhide Bb0).below.size
  have lb := fun p hp => (unhide Bb0).hi (p := p) hp
  clear Bb0
  generalize (wb.alloc (.cells zeroCells 34)).setRow wb.heap.size cb = Xb at Bb ⊢
  generalize wb.heap.size = gb at Bb nb lb ⊢
  refine (write_any gn gk oneI blankI 99 _ ((unhide Bb).has (by simp) one_is) ((unhide Bb).is (by simp) blank_is)).mono ?_
  rw [begun_in.2.2]
  rintro e wo ⟨⟨co, rfl, ho⟩, hbo⟩
  have Bo0 := hide ((unhide Bb).call hbo)
  clear hbo Bb
  have so := hide (heap_alloc_last wo (.cells zeroCells 34))
  go_wp2_with (have hx := unhide so; refine wpList_store_row rfl 34 _ _ rfl wo.heap.size co rfl rfl 34 zeroCells hx (img_info ho.size) (zero_size ho) ho.all ?_; clear hx so)
  have Bo := hide ((unhide Bo0).new co)
  have no := (unhide Bo0).below.size
  have lo := fun p hp => (unhide Bo0).hi (p := p) hp
  clear Bo0
  generalize (wo.alloc (.cells zeroCells 34)).setRow wo.heap.size co = Xo at Bo ⊢
  generalize wo.heap.size = go at Bo no lo ⊢
  refine (block_any _ _).mono ?_
  rw [begun_k.1, begun_k.2]
  rintro e w1 ⟨rfl, e1⟩
  rw [e1]
  clear e1 w1
  have rb := hide ((unhide Bo).row (gb, cb) (by simp))
  have sc := hide (heap_alloc_last Xo (.cells zeroCells 34))
  have Bc := hide ((unhide Bo).new cb)
  have nc := (unhide Bo).below.size
  have lc := fun p hp => (unhide Bo).hi (p := p) hp
  have o1 := ((unhide Bc).has (g := gn) (by simp) one_is).of 3 (by omega)
  have o2 := ((unhide Bc).has (g := gn) (by simp) one_is).text 3 (by omega)
  rw [begun_n.1] at o1
  rw [begun_n.2] at o2
  have v1 := ((unhide Bc).has (g := Xo.heap.size) (by simp) hb).of 3 (by omega)
  have v2 := ((unhide Bc).has (g := Xo.heap.size) (by simp) hb).text 3 (by omega)
  have fz := (unhide Bc).fz (g := Xo.heap.size) (c := cb) (by simp)
  go_wp2_with (first | (have hx := unhide rb; refine wpList_load_row rfl 34 _ rfl gb rfl 34 cb (0, 0) _ hx img_under rfl (img_info hb.size) ?_; clear hx rb) | (have hx := unhide sc; refine wpList_store_row rfl 34 _ _ rfl Xo.heap.size cb rfl rfl 34 zeroCells hx (img_info hb.size) (zero_size hb) hb.all ?_; clear hx sc; generalize (Xo.alloc (.cells zeroCells 34)).setRow Xo.heap.size cb = Xc at Bc o1 o2 v1 v2 fz ⊢))
  have Bc2 := hide (((unhide Bc).set (fun p hp => Nat.ne_of_lt (lc p hp)) 82 (.int .i64 5)).set (fun p hp => Nat.ne_of_lt (lc p hp)) 83 (.string ⟨#[120]⟩))
  have hc : IsImg ((cb.setIfInBounds 82 (.int .i64 5)).setIfInBounds 83 (.string ⟨#[120]⟩)) begunC := hb.putData (x := 3) (by omega) 5 ⟨#[120]⟩ (by unfold maxLen; show 1 ≤ _; omega)
  clear Bc o1 o2 v1 v2 fz
  generalize (cb.setIfInBounds 82 (.int .i64 5)).setIfInBounds 83 (.string ⟨#[120]⟩) = cc at Bc2 hc
  generalize (Xc.setCell ⟨Xo.heap.size, 82, none⟩ (.int .i64 5)).setCell ⟨Xo.heap.size, 83, none⟩ (.string ⟨#[120]⟩) = Xd at Bc2 ⊢
  generalize Xo.heap.size = gc at Bc2 nc lc ⊢
  refine (write_any gn gc oneI begunC 3 _ ((unhide Bc2).has (by simp) one_is) ((unhide Bc2).is (by simp) hc)).mono ?_
  rw [begun_in.1]
  rintro e wd ⟨⟨cd, rfl, hd⟩, hbd⟩
  have Bd0 := hide ((unhide Bc2).call hbd)
  clear hbd Bc2
  have sd := hide (heap_alloc_last wd (.cells zeroCells 34))
  have Bd := hide ((unhide Bd0).new cd)
  clear Bd0
  have c1 := ((unhide Bd).has (g := gb) (by simp) hb).live 2 (by omega)
  have c2 := ((unhide Bd).has (g := gb) (by simp) hb).part 2 1 (by omega) (by omega)
  have c3 := ((unhide Bd).has (g := wd.heap.size) (by simp) hd).name 1 2 (by omega) (by omega)
  rw [begun_b.1] at c1
  rw [begun_b.2] at c2
  rw [begun_d] at c3
  have ra := hide ((unhide Bd).row (ga, blankCells) (by simp))
  have rk := hide ((unhide Bd).row (gk, blankCells) (by simp))
  clear nc lc no lo nb lb na la
  go_wp2_with (first | (have hx := unhide sd; refine wpList_store_row rfl 34 _ _ rfl wd.heap.size cd rfl rfl 34 zeroCells hx (img_info hd.size) (zero_size hd) hd.all ?_; clear hx sd; generalize (wd.alloc (.cells zeroCells 34)).setRow wd.heap.size cd = Xe at Bd c1 c2 c3 ra rk ⊢; generalize wd.heap.size = ge at Bd c3 ⊢) | (have hx := unhide ra; refine wpList_load_row_g rfl 34 _ rfl ga rfl 34 blankCells (0, 0) _ hx img_under rfl (img_info size_blank) ?_; clear hx ra) | (have hx := unhide rk; refine wpList_load_row_g rfl 34 _ rfl gk rfl 34 blankCells (0, 0) _ hx img_under rfl (img_info size_blank) ?_; clear hx rk) | (go_at_call 42; refine (union_any gn gk oneI blankI _ _ ((unhide Bd).has (by simp) one_is) ((unhide Bd).has (by simp) blank_is)).mono ?_; rw [begun_u]; rintro e w' ⟨rfl, rfl⟩))
  go_ret
  exact ⟨rfl, (unhide Bd).below⟩
end Go.Proofs.Ytmlhalhjfcfagab
