/-
  The law SoftExact: its walk. (Written by geneb.py.)
-/
import Derived.Test.YtmhbphmdfnlmkabGreatYl
import Derived.Test.YtmhbphmdfnlmkabGreatYm
import Derived.Test.YtmhbphmdfnlmkabGreatWh
import Derived.Test.YtmhbphmdfnlmkabGreatYk
namespace Go.Proofs.YtmhbphmdfnlmkabGreat
open Go.RowKit
open Idl (Stp chk stpA)
namespace Sft
theorem Steps.gen {w : World} {v : Value} {L : List Stp} (hs : Idl.Steps w v L) : ∃ a c, v = .slice a L.length c ∧ ∀ i (hi : i < L.length), ∃ g o, a = some ⟨g, o, none⟩ ∧ g < w.heap.size ∧ ∀ W, Below w.heap.size w W → ∀ j u, (stpA L[i])[j]? = some u → W.cell? ⟨g, o + i * 7 + j, none⟩ = some u := by
  rcases hs.form with ⟨rfl, a, c, rfl⟩ | ⟨g, o, c, rfl, hg, hc⟩
  · exact ⟨a, c, rfl, fun i hi => by cases hi⟩
  · exact ⟨_, c, rfl, fun i hi => ⟨g, o, rfl, hg, fun W hb j u hu => by rw [hb.cell (p := ⟨g, o + i * 7 + j, none⟩) hg]; exact hc i hi j u hu⟩⟩
/-- what the law keeps from round to round -/
structure Keeps (m k : Img) (last : Int) (n : Nat) : Prop where
  good : Img.Good m last
  lies : Img.Lies m k
  few : last ≤ n
theorem blank_empties : Img.Empties blankI := fun _ _ hd hs h => Img.empty_unnamed good0.ex.ok hd hs h
theorem blank_slotty : Img.Slotty blankI blankI := fun _ _ _ _ _ _ => rfl
theorem Keeps.start : Keeps blankI blankI 0 0 := ⟨good0, ⟨blank_slotty, blank_empties⟩, Int.le_refl _⟩
section
variable {m k : Img} {last : Int} {n : Nat}
theorem Keeps.mono {n' : Nat} (h : Keeps m k last n) (hn : n ≤ n') : Keeps m k last n' := ⟨h.good, h.lies, by have := h.few; omega⟩
theorem Keeps.disk (h : Keeps m k last n) (x : Stp) : Keeps m (Img.sdisk m k x) last n := ⟨h.good, h.lies.sdisk h.good.ex.ok x, h.few⟩
theorem Keeps.syn (h : Keeps m k last n) : Keeps m (Img.syn m 8 k).2 last n := ⟨h.good, h.lies.syn h.good.ex.ok 8, h.few⟩
theorem Keeps.step (h : Keeps m k last n) (x : Stp) : Keeps (Img.sstep m k last x) k (Img.slast m k last x) (n + 1) :=
  ⟨Img.good_step h.good x, h.lies.step h.good x, by have := Img.slast_le (now := m) (disk := k) (last := last) x; have := h.few; omega⟩
theorem Keeps.exact (h : Keeps m k last n) : m.exact = true := Img.ex_iff.2 h.good.ex
theorem Keeps.room (h : Keeps m k last n) {x : Stp} (hc : Img.scode m (Img.syn m 8 k).2 x = 6) : Img.room m x = false := Img.full_room h.good.ex.ok (h.lies.clean h.good.ex) hc
end
theorem HasAt.img {w : World} {b : Nat} {m : Img} (h : HasAt w b 0 m) : HasImg w b m :=
  ⟨h.lt, fun n h1 => by have := h.live n h1; rwa [Nat.zero_add] at this, fun n h1 => by have := h.stamp n h1; rwa [Nat.zero_add] at this, fun n h1 => by have := h.links n h1; rwa [Nat.zero_add] at this,
    fun n p h1 h2 => by have := h.part n p h1 h2; rwa [Nat.zero_add] at this, fun d s h1 h2 => by have := h.name d s h1 h2; rwa [Nat.zero_add] at this, fun d s h1 h2 => by have := h.ino d s h1 h2; rwa [Nat.zero_add] at this,
    fun d s h1 h2 => by have := h.est d s h1 h2; rwa [Nat.zero_add] at this, fun x h1 => by have := h.of x h1; rwa [Nat.zero_add] at this, fun x h1 => by have := h.text x h1; rwa [Nat.zero_add] at this, h.small, h.short⟩
def stepZ : Array Value := #[.int .i64 0, .int .i64 0, .int .i64 0, .int .i64 0, .string ⟨#[]⟩, .string ⟨#[]⟩, .string ⟨#[]⟩]
theorem step_info (x : Stp) : (Tryz.prog.info? 37).map (·.size) = some (stpA x).size := by kernel_rfl
theorem step_all (x : Stp) : (stpA x).all (·.oneCell') = true := by kernel_rfl
theorem row_all {cs : Array Value} (h : cs.size = 94) : cs.extract 0 (0 + 94) = cs := by rw [show 0 + 94 = cs.size by omega]; exact Array.extract_size
theorem _root_.Go.Proofs.YtmhbphmdfnlmkabGreat.Img.slast_code {m k : Img} {last : Int} {x : Stp} (h : Img.scode m k x ≠ 0) : Img.slast m k last x = last := if_neg (fun z => h z.1)
theorem Op1.neq0 {o : Oper} {ρ : Operand → Value} (x : Operand) (ho : o.op = .binOp .neq 3 x (.const (.int .i64 0)) 3) {v : Int} (hx : ρ x = .int .i64 v) (hy : ρ (.const (.int .i64 0)) = .int .i64 0) (hv : (v != 0) = true) (w : World) : (execOp ρ o).run Tryz.prog w = .ok (.value (.bool true)) w := by
  unfold execOp
  rw [ho]
  go_simp
theorem Op1.eql6 {o : Oper} {ρ : Operand → Value} (x : Operand) (ho : o.op = .binOp .eql 3 x (.const (.int .i64 6)) 3) {v : Int} (hx : ρ x = .int .i64 v) (hy : ρ (.const (.int .i64 6)) = .int .i64 6) (hv : (v == 6) = false) (w : World) : (execOp ρ o).run Tryz.prog w = .ok (.value (.bool false)) w := by
  unfold execOp
  rw [ho]
  go_simp
theorem step_under : Tryz.prog.underlying 37 = some (.struct (Tryz.prog.fieldsOf 37)) := by kernel_rfl
theorem same_self (m : Img) : (!Img.sameImg m m) = false := by rw [Img.same_iff.2 (Img.Agree.refl m)]; rfl
set_option maxHeartbeats 8000000 in
set_option maxRecDepth 100000 in
theorem softExact_any {w : World} {v : Value} {L : List Stp} (hs : Idl.Steps w v L) :
    Calls Tryz.prog 5 #[v] w fun e w' => e = .returned (.bool true) ∧ Below w.heap.size w w' := by
  have z := zero_img.1
  have hbg := begun_any w
  have HG := hide fun W (bW : Below w.heap.size w W) => Idl.greatSteps_any (hs.below bW)
  have HOk := hide hs.ok
  have hgl : Idl.greats L = false → L.length ≤ 200 := fun h => by
    simp only [Idl.greats, Bool.or_eq_false_iff, decide_eq_false_iff_not] at h
    omega
  have HGL := hide hgl
  obtain ⟨a, c, rfl, hst⟩ := Steps.gen hs
  have HST := hide hst
  clear hs hgl hst
  go_enter Tryz.func5, Tryz.ntmps5
  go_wp2_with fail
  refine hbg.mono ?_
  rintro e w1 ⟨rfl, b1⟩
  have B1 := hide b1
  have hg := unhide HG w1 b1
  clear b1 hbg
  cases hgr : Idl.greats L <;> rw [hgr] at hg
  case true =>
    clear hgr
    go_wp2_with fail
    refine hg.mono ?_
    rintro e w2 ⟨rfl, b2⟩
    have B2 := hide ((unhide B1).trans (b2.mono (unhide B1).size))
    clear b2 hg
    go_wp2_with fail
    go_ret
    exact ⟨rfl, unhide B2⟩
  have h200 := unhide HGL hgr
  clear hgr HGL HG
  go_wp2_with fail
  refine hg.mono ?_
  rintro e w2 ⟨rfl, b2⟩
  have B2 := hide ((unhide B1).trans (b2.mono (unhide B1).size))
  clear b2 hg B1
  go_wp2_with fail
  refine (Fo.new w (unhide B2)).mono ?_
  rintro e w3 ⟨bf, bc, rfl, _, _, h3, _⟩
  have H3 := hide h3
  clear h3
  go_wp2_with fail
  refine (newBed_any w3).mono ?_
  rintro e w4 ⟨gb, rfl, hgb, hbed, b4⟩
  have HF := hide (show Fb w bf bc gb blankI blankI 0 w4 from ⟨(unhide H3).call b4, hbed, Nat.le_trans (unhide H3).bel.size hgb, by have := (unhide H3).cells.2.1; omega, by have := (unhide H3).cells.2.2.1; omega⟩)
  clear H3 hgb hbed b4 B2
  go_wp2_with fail
  go_loopw [5] (fun i wr => ∃ (j : Nat) (m k : Img) (last : Int), j ≤ L.length ∧ i = .int .i64 j ∧ Hid (Fb w bf bc gb m k last wr) ∧ Hid (Keeps m k last (2 * j))) (fun i _ => L.length - (intOf i).toNat)
  case atStart => exact ⟨0, blankI, blankI, 0, Nat.zero_le _, rfl, HF, hide Keeps.start⟩
  case round =>
    obtain ⟨j, m, k, last, hj, rfl, HF, HK⟩ := hrel
    by_cases hlt : j < L.length
    case neg =>
      go_wp2_with fail
      go_ret
      exact ⟨rfl, (unhide HF).fo.bel⟩
    have hjn : (j : Int) < (L.length : Int) := by omega
    obtain ⟨cs, ds, f⟩ := (unhide HF).fo.it
    have r1 := hide f.row
    have p0 := f.ptr
    have l0 := f.flt
    have l1 := f.clt
    have hi := f.now
    have zi := hi.size
    have zj := f.disk.size
    have s1 := hide (heap_alloc_last wr (.cells zeroCells 34))
    have hle : 0 + 94 ≤ (cs ++ ds).size := by simp [zi]
    have BA := hide (below_setRow ((Below.refl wr.heap.size wr).alloc (Nat.le_refl _) (.cells zeroCells 34)) (Nat.le_refl wr.heap.size) cs)
    have RA := hide (setRow_heap (wr.alloc (.cells zeroCells 34)) wr.heap.size _ cs _ _ (heap_alloc_last wr (.cells zeroCells 34)))
    have GA := hide (show wr.heap.size < ((wr.alloc (.cells zeroCells 34)).setRow wr.heap.size cs).heap.size from (Array.getElem?_eq_some_iff.1 (unhide RA)).1)
    clear f
    go_wp2_with (first | (have hx := unhide r1; refine wpList_load_part rfl 34 _ rfl bc 0 94 rfl 57 (cs ++ ds) _ hx img_under rfl zero_img.2 hle ?_; rw [app_fst zi]; clear hx r1) | (have hx := unhide s1; refine wpList_store_row rfl 34 _ _ rfl wr.heap.size cs rfl rfl 34 zeroCells hx (img_info zi) (zero_size hi) hi.all ?_; clear hx s1))
    obtain ⟨ga, oa, rfl, hga, hca⟩ := unhide HST j hlt
    have hxo := unhide HOk L[j] (List.getElem_mem hlt)
    generalize L[j] = x at hca hxo
    obtain ⟨kind, dir, toDir, p, name, tu, text⟩ := x
    have HXO := hide hxo.big
    have HA := hide ((unhide HF).call (unhide BA))
    have H6 := hide (show wr.heap.size ≠ bf ∧ wr.heap.size ≠ bc ∧ wr.heap.size ≠ gb from ⟨by omega, by omega, by have := (unhide HF).bed.lt; omega⟩)
    generalize (wr.alloc (.cells zeroCells 34)).setRow wr.heap.size cs = A2 at *
    have bA := (unhide HA).fo.bel
    have c0 : A2.cell? ⟨ga, oa + j * 7, none⟩ = some (.int .i64 kind) := hca A2 bA 0 _ rfl
    have c1 : A2.cell? ⟨ga, oa + j * 7 + 1, none⟩ = some (.int .i64 dir) := hca A2 bA 1 _ rfl
    have c2 : A2.cell? ⟨ga, oa + j * 7 + 2, none⟩ = some (.int .i64 toDir) := hca A2 bA 2 _ rfl
    have c3 : A2.cell? ⟨ga, oa + j * 7 + 3, none⟩ = some (.int .i64 p) := hca A2 bA 3 _ rfl
    have c4 : A2.cell? ⟨ga, oa + j * 7 + 4, none⟩ = some (.string name) := hca A2 bA 4 _ rfl
    have c5 : A2.cell? ⟨ga, oa + j * 7 + 5, none⟩ = some (.string tu) := hca A2 bA 5 _ rfl
    have c6 : A2.cell? ⟨ga, oa + j * 7 + 6, none⟩ = some (.string text) := hca A2 bA 6 _ rfl
    have s2 := hide (heap_alloc_last A2 (.cells #[.int .i64 0, .int .i64 0, .int .i64 0, .int .i64 0, .string ⟨#[]⟩, .string ⟨#[]⟩, .string ⟨#[]⟩] 37))
    have BB := hide (below_setRow ((Below.refl A2.heap.size A2).alloc (Nat.le_refl _) (.cells #[.int .i64 0, .int .i64 0, .int .i64 0, .int .i64 0, .string ⟨#[]⟩, .string ⟨#[]⟩, .string ⟨#[]⟩] 37)) (Nat.le_refl A2.heap.size) #[.int .i64 kind, .int .i64 dir, .int .i64 toDir, .int .i64 p, .string name, .string tu, .string text])
    have RB := hide (setRow_heap (A2.alloc (.cells #[.int .i64 0, .int .i64 0, .int .i64 0, .int .i64 0, .string ⟨#[]⟩, .string ⟨#[]⟩, .string ⟨#[]⟩] 37)) A2.heap.size _ #[.int .i64 kind, .int .i64 dir, .int .i64 toDir, .int .i64 p, .string name, .string tu, .string text] _ _ (heap_alloc_last A2 (.cells #[.int .i64 0, .int .i64 0, .int .i64 0, .int .i64 0, .string ⟨#[]⟩, .string ⟨#[]⟩, .string ⟨#[]⟩] 37)))
    have q0 : ((A2.alloc (.cells #[.int .i64 0, .int .i64 0, .int .i64 0, .int .i64 0, .string ⟨#[]⟩, .string ⟨#[]⟩, .string ⟨#[]⟩] 37)).setRow A2.heap.size #[.int .i64 kind, .int .i64 dir, .int .i64 toDir, .int .i64 p, .string name, .string tu, .string text]).cell? ⟨A2.heap.size, 0, none⟩ = some (.int .i64 kind) := by rw [cell_of_row _ _ 0 _ _ _ (unhide RB)]; rfl
    have q1 : ((A2.alloc (.cells #[.int .i64 0, .int .i64 0, .int .i64 0, .int .i64 0, .string ⟨#[]⟩, .string ⟨#[]⟩, .string ⟨#[]⟩] 37)).setRow A2.heap.size #[.int .i64 kind, .int .i64 dir, .int .i64 toDir, .int .i64 p, .string name, .string tu, .string text]).cell? ⟨A2.heap.size, 1, none⟩ = some (.int .i64 dir) := by rw [cell_of_row _ _ 1 _ _ _ (unhide RB)]; rfl
    have q2 : ((A2.alloc (.cells #[.int .i64 0, .int .i64 0, .int .i64 0, .int .i64 0, .string ⟨#[]⟩, .string ⟨#[]⟩, .string ⟨#[]⟩] 37)).setRow A2.heap.size #[.int .i64 kind, .int .i64 dir, .int .i64 toDir, .int .i64 p, .string name, .string tu, .string text]).cell? ⟨A2.heap.size, 2, none⟩ = some (.int .i64 toDir) := by rw [cell_of_row _ _ 2 _ _ _ (unhide RB)]; rfl
    have q3 : ((A2.alloc (.cells #[.int .i64 0, .int .i64 0, .int .i64 0, .int .i64 0, .string ⟨#[]⟩, .string ⟨#[]⟩, .string ⟨#[]⟩] 37)).setRow A2.heap.size #[.int .i64 kind, .int .i64 dir, .int .i64 toDir, .int .i64 p, .string name, .string tu, .string text]).cell? ⟨A2.heap.size, 3, none⟩ = some (.int .i64 p) := by rw [cell_of_row _ _ 3 _ _ _ (unhide RB)]; rfl
    have q4 : ((A2.alloc (.cells #[.int .i64 0, .int .i64 0, .int .i64 0, .int .i64 0, .string ⟨#[]⟩, .string ⟨#[]⟩, .string ⟨#[]⟩] 37)).setRow A2.heap.size #[.int .i64 kind, .int .i64 dir, .int .i64 toDir, .int .i64 p, .string name, .string tu, .string text]).cell? ⟨A2.heap.size, 4, none⟩ = some (.string name) := by rw [cell_of_row _ _ 4 _ _ _ (unhide RB)]; rfl
    have q5 : ((A2.alloc (.cells #[.int .i64 0, .int .i64 0, .int .i64 0, .int .i64 0, .string ⟨#[]⟩, .string ⟨#[]⟩, .string ⟨#[]⟩] 37)).setRow A2.heap.size #[.int .i64 kind, .int .i64 dir, .int .i64 toDir, .int .i64 p, .string name, .string tu, .string text]).cell? ⟨A2.heap.size, 5, none⟩ = some (.string tu) := by rw [cell_of_row _ _ 5 _ _ _ (unhide RB)]; rfl
    have q6 : ((A2.alloc (.cells #[.int .i64 0, .int .i64 0, .int .i64 0, .int .i64 0, .string ⟨#[]⟩, .string ⟨#[]⟩, .string ⟨#[]⟩] 37)).setRow A2.heap.size #[.int .i64 kind, .int .i64 dir, .int .i64 toDir, .int .i64 p, .string name, .string tu, .string text]).cell? ⟨A2.heap.size, 6, none⟩ = some (.string text) := by rw [cell_of_row _ _ 6 _ _ _ (unhide RB)]; rfl
    have HB := hide ((unhide HA).call (unhide BB))
    have G7 := hide (show A2.heap.size ≠ bf ∧ A2.heap.size ≠ bc ∧ A2.heap.size ≠ gb from ⟨by have := (unhide HA).fo.cells.2.1; omega, by have := (unhide HA).fo.cells.2.2.1; omega, by have := (unhide HA).bed.lt; omega⟩)
    have RW := hide (show ((A2.alloc (.cells #[.int .i64 0, .int .i64 0, .int .i64 0, .int .i64 0, .string ⟨#[]⟩, .string ⟨#[]⟩, .string ⟨#[]⟩] 37)).setRow A2.heap.size #[.int .i64 kind, .int .i64 dir, .int .i64 toDir, .int .i64 p, .string name, .string tu, .string text]).heap[wr.heap.size]? = some (.cells cs 34) by rw [(unhide BB).block _ (unhide GA)]; exact unhide RA)
    clear hca bA BA p0 l0 l1 HST HOk hxo hga HA BB RA GA
    have hkk : ((kind == 7) = true ∧ Hid (kind = 7 ∨ kind = 8 ∨ kind = 9)) ∨ (((kind == 7) = false ∧ (kind == 8) = true) ∧ Hid (kind = 7 ∨ kind = 8 ∨ kind = 9)) ∨ (((kind == 7) = false ∧ (kind == 8) = false ∧ (kind == 9) = true) ∧ Hid (kind = 7 ∨ kind = 8 ∨ kind = 9)) ∨ ((kind == 7) = false ∧ (kind == 8) = false ∧ (kind == 9) = false) := by
      by_cases h7 : kind = 7
      · exact .inl ⟨by simpa using h7, hide (.inl h7)⟩
      · by_cases h8 : kind = 8
        · exact .inr (.inl ⟨⟨by simpa using h7, by simpa using h8⟩, hide (.inr (.inl h8))⟩)
        · by_cases h9 : kind = 9
          · exact .inr (.inr (.inl ⟨⟨by simpa using h7, by simpa using h8, by simpa using h9⟩, hide (.inr (.inr h9))⟩))
          · exact .inr (.inr (.inr ⟨by simpa using h7, by simpa using h8, by simpa using h9⟩))
    rcases hkk with ⟨k7, HX⟩ | ⟨⟨k7, k8⟩, HX⟩ | ⟨⟨k7, k8, k9⟩, HX⟩ | ⟨k7, k8, k9⟩
    · go_simp
      go_wp2_with (have hx := unhide s2; refine wpList_store_row rfl 37 _ _ rfl A2.heap.size _ rfl rfl 37 _ hx (step_info ⟨kind, dir, toDir, p, name, tu, text⟩) rfl (step_all ⟨kind, dir, toDir, p, name, tu, text⟩) ?_; clear hx s2)
      generalize (A2.alloc (.cells #[.int .i64 0, .int .i64 0, .int .i64 0, .int .i64 0, .string ⟨#[]⟩, .string ⟨#[]⟩, .string ⟨#[]⟩] 37)).setRow A2.heap.size #[.int .i64 kind, .int .i64 dir, .int .i64 toDir, .int .i64 p, .string name, .string tu, .string text] = B at *
      generalize A2.heap.size = g7 at *
      generalize wr.heap.size = g6 at *
      clear c0 c1 c2 c3 c4 c5 c6
      have R6B := unhide RW
      have R7B := unhide RB
      have D1 := hide (softStep_none (unhide HB) ⟨kind, dir, toDir, p, name, tu, text⟩ (unhide HX))
      have K1 := hide ((unhide HK).disk ⟨kind, dir, toDir, p, name, tu, text⟩)
      simp only [stpA] at D1
      refine (unhide D1).mono ?_
      rintro e W5 ⟨⟨vb, rfl⟩, h5, o5, s5⟩
      have H5 := hide h5
      have R6W5 : W5.heap[g6]? = some (.cells cs 34) := by rw [o5 g6 (Array.getElem?_eq_some_iff.1 R6B).1 (unhide H6).1 (unhide H6).2.1 (unhide H6).2.2]; exact R6B
      have R7W5 : W5.heap[g7]? = some (.cells #[.int .i64 kind, .int .i64 dir, .int .i64 toDir, .int .i64 p, .string name, .string tu, .string text] 37) := by rw [o5 g7 (Array.getElem?_eq_some_iff.1 R7B).1 (unhide G7).1 (unhide G7).2.1 (unhide G7).2.2]; exact R7B
      clear h5 o5 s5 D1 HB q0 q1 q2 q3 q4 q5 q6 RW RB R6B R7B HF
      generalize Img.sdisk m k ⟨kind, dir, toDir, p, name, tu, text⟩ = k5 at H5 K1
      obtain ⟨es, fs, f⟩ := (unhide H5).fo.it
      have ze := f.now.size
      have hlf : 0 + 94 ≤ (es ++ fs).size := by simp [ze]
      have SD := hide (show (fun W => W.cell? ⟨bf, 0, none⟩ = some (.pointer (some ⟨bc, 0, none⟩)) ∧ W.heap[bc]? = some (.cells (es ++ fs) 57) ∧ W.heap[g6]? = some (.cells cs 34) ∧ W.heap[g7]? = some (.cells #[.int .i64 kind, .int .i64 dir, .int .i64 toDir, .int .i64 p, .string name, .string tu, .string text] 37)) W5.drew from ⟨f.ptr, f.row, R6W5, R7W5⟩)
      have QN := hide (show ∀ w, (binOp .neq 34 (.agg es) (.agg cs)).run Tryz.prog w = .ok (.bool false) w from fun w => by have := neqlImg f.now hi w; rwa [same_self] at this)
      clear f R6W5 R7W5
      go_wp2_with fail
      refine wp_region_held_drew (S := fun W => W.cell? ⟨bf, 0, none⟩ = some (.pointer (some ⟨bc, 0, none⟩)) ∧ W.heap[bc]? = some (.cells (es ++ fs) 57) ∧ W.heap[g6]? = some (.cells cs 34) ∧ W.heap[g7]? = some (.cells #[.int .i64 kind, .int .i64 dir, .int .i64 toDir, .int .i64 p, .string name, .string tu, .string text] 37)) (by kernel_rfl) (unhide SD) (fun hS => ?_)
      refine wpAnyH_take (i := 0) (oi := { dst := some 50, op := Op.move (Operand.tmp 3), type := 42, pos := "law05.go:151", after := #[], guard := none }) (v := .pointer (some ⟨bf, 0, none⟩)) rfl (by kernel_rfl) (by kernel_rfl) (by kernel_rfl) (fun _ _ _ h => h) (Or.inl ⟨by kernel_rfl, fun W h => (by first | kernel_rfl | go_simp)⟩) hS ?_
      try simp only [Act.put, List.setIfInBounds_toArray, List.set_cons_zero, List.set_cons_succ]
      refine wpAnyH_take (i := 1) (oi := { dst := some 51, op := Op.nilCheck (Operand.tmp 50), type := 0, pos := "law05.go:151", after := #[{ on := 0, ground := Ground.data }], guard := none }) (v := .pointer (some ⟨bf, 0, none⟩)) rfl (by kernel_rfl) (by kernel_rfl) (by kernel_rfl) (fun _ _ _ h => h) (Or.inl ⟨by kernel_rfl, fun W h => (by first | kernel_rfl | go_simp)⟩) hS ?_
      try simp only [Act.put, List.setIfInBounds_toArray, List.set_cons_zero, List.set_cons_succ]
      refine wpAnyH_take (i := 2) (oi := { dst := some 52, op := Op.fieldAddr 55 (Operand.tmp 51) 0, type := 0, pos := "law05.go:151", after := #[{ on := 1, ground := Ground.data }], guard := none }) (v := .pointer (some ⟨bf, 0, none⟩)) rfl (by kernel_rfl) (by kernel_rfl) (by kernel_rfl) (fun _ _ _ h => h) (Or.inl ⟨by kernel_rfl, fun W h => (by first | kernel_rfl | go_simp)⟩) hS ?_
      try simp only [Act.put, List.setIfInBounds_toArray, List.set_cons_zero, List.set_cons_succ]
      refine wpAnyH_take (i := 3) (oi := { dst := some 53, op := Op.load 53 (Operand.tmp 52), type := 53, pos := "law05.go:151", after := #[{ on := 2, ground := Ground.data }], guard := none }) (v := .pointer (some ⟨bc, 0, none⟩)) rfl (by kernel_rfl) (by kernel_rfl) (by kernel_rfl) (fun _ _ _ h => h) (Or.inl ⟨by kernel_rfl, fun W h => Op1.ld_ptr (.tmp 52) (by kernel_rfl) (by kernel_rfl) W (h.1)⟩) hS ?_
      try simp only [Act.put, List.setIfInBounds_toArray, List.set_cons_zero, List.set_cons_succ]
      refine wpAnyH_take (i := 4) (oi := { dst := some 54, op := Op.nilCheck (Operand.tmp 53), type := 0, pos := "law05.go:151", after := #[{ on := 3, ground := Ground.data }], guard := none }) (v := .pointer (some ⟨bc, 0, none⟩)) rfl (by kernel_rfl) (by kernel_rfl) (by kernel_rfl) (fun _ _ _ h => h) (Or.inl ⟨by kernel_rfl, fun W h => (by first | kernel_rfl | go_simp)⟩) hS ?_
      try simp only [Act.put, List.setIfInBounds_toArray, List.set_cons_zero, List.set_cons_succ]
      refine wpAnyH_take (i := 5) (oi := { dst := some 55, op := Op.fieldAddr 57 (Operand.tmp 54) 0, type := 0, pos := "law05.go:151", after := #[{ on := 4, ground := Ground.data }], guard := none }) (v := .pointer (some ⟨bc, 0, none⟩)) rfl (by kernel_rfl) (by kernel_rfl) (by kernel_rfl) (fun _ _ _ h => h) (Or.inl ⟨by kernel_rfl, fun W h => (by first | kernel_rfl | go_simp)⟩) hS ?_
      try simp only [Act.put, List.setIfInBounds_toArray, List.set_cons_zero, List.set_cons_succ]
      refine wpAnyH_take (i := 6) (oi := { dst := some 56, op := Op.load 34 (Operand.tmp 55), type := 34, pos := "law05.go:151", after := #[{ on := 5, ground := Ground.data }], guard := none }) (v := .agg es) rfl (by kernel_rfl) (by kernel_rfl) (by kernel_rfl) (fun _ _ _ h => h) (Or.inl ⟨by kernel_rfl, fun W h => run_exec_load_part 34 (.tmp 55) (by kernel_rfl) bc 0 94 (by kernel_rfl) W 57 (es ++ fs) es _ (h.2.1) img_under rfl zero_img.2 (hlf) (app_fst ze)⟩) hS ?_
      try simp only [Act.put, List.setIfInBounds_toArray, List.set_cons_zero, List.set_cons_succ]
      refine wpAnyH_take (i := 7) (oi := { dst := some 57, op := Op.load 34 (Operand.tmp 6), type := 34, pos := "law05.go:151", after := #[], guard := none }) (v := .agg cs) rfl (by kernel_rfl) (by kernel_rfl) (by kernel_rfl) (fun _ _ _ h => h) (Or.inl ⟨by kernel_rfl, fun W h => run_exec_load_part 34 (.tmp 6) (by kernel_rfl) g6 0 94 (by kernel_rfl) W 34 (cs) cs _ (h.2.2.1) img_under rfl zero_img.2 (by omega) (row_all zi)⟩) hS ?_
      try simp only [Act.put, List.setIfInBounds_toArray, List.set_cons_zero, List.set_cons_succ]
      refine wpAnyH_take (i := 8) (oi := { dst := some 58, op := Op.binOp BinOp.neq 34 (Operand.tmp 56) (Operand.tmp 57) 34, type := 4, pos := "law05.go:151", after := #[{ on := 6, ground := Ground.data }, { on := 7, ground := Ground.data }], guard := none }) (v := .bool false) rfl (by kernel_rfl) (by kernel_rfl) (by kernel_rfl) (fun _ _ _ h => h) (Or.inl ⟨by kernel_rfl, fun W h => run_exec_neql 34 34 (.tmp 56) (.tmp 57) (by kernel_rfl) es cs (by kernel_rfl) (by kernel_rfl) _ Tryz.eqGuardType34 (unhide QN) W⟩) hS ?_
      try simp only [Act.put, List.setIfInBounds_toArray, List.set_cons_zero, List.set_cons_succ]
      refine wpAnyH_done (by kernel_rfl) ?_ _
      go_wp2_with fail
      go_roundw
      case rel => exact ⟨j + 1, m, k5, last, by omega, by go_num, hide ((unhide H5).call ((Below.refl _ _).drew)), hide ((unhide K1).mono (by omega))⟩
      case measure => simp [intOf]; omega
    · go_simp
      go_wp2_with (have hx := unhide s2; refine wpList_store_row rfl 37 _ _ rfl A2.heap.size _ rfl rfl 37 _ hx (step_info ⟨kind, dir, toDir, p, name, tu, text⟩) rfl (step_all ⟨kind, dir, toDir, p, name, tu, text⟩) ?_; clear hx s2)
      generalize (A2.alloc (.cells #[.int .i64 0, .int .i64 0, .int .i64 0, .int .i64 0, .string ⟨#[]⟩, .string ⟨#[]⟩, .string ⟨#[]⟩] 37)).setRow A2.heap.size #[.int .i64 kind, .int .i64 dir, .int .i64 toDir, .int .i64 p, .string name, .string tu, .string text] = B at *
      generalize A2.heap.size = g7 at *
      generalize wr.heap.size = g6 at *
      clear c0 c1 c2 c3 c4 c5 c6
      have R6B := unhide RW
      have R7B := unhide RB
      have D1 := hide (softStep_none (unhide HB) ⟨kind, dir, toDir, p, name, tu, text⟩ (unhide HX))
      have K1 := hide ((unhide HK).disk ⟨kind, dir, toDir, p, name, tu, text⟩)
      simp only [stpA] at D1
      refine (unhide D1).mono ?_
      rintro e W5 ⟨⟨vb, rfl⟩, h5, o5, s5⟩
      have H5 := hide h5
      have R6W5 : W5.heap[g6]? = some (.cells cs 34) := by rw [o5 g6 (Array.getElem?_eq_some_iff.1 R6B).1 (unhide H6).1 (unhide H6).2.1 (unhide H6).2.2]; exact R6B
      have R7W5 : W5.heap[g7]? = some (.cells #[.int .i64 kind, .int .i64 dir, .int .i64 toDir, .int .i64 p, .string name, .string tu, .string text] 37) := by rw [o5 g7 (Array.getElem?_eq_some_iff.1 R7B).1 (unhide G7).1 (unhide G7).2.1 (unhide G7).2.2]; exact R7B
      clear h5 o5 s5 D1 HB q0 q1 q2 q3 q4 q5 q6 RW RB R6B R7B HF
      generalize Img.sdisk m k ⟨kind, dir, toDir, p, name, tu, text⟩ = k5 at H5 K1
      obtain ⟨es, fs, f⟩ := (unhide H5).fo.it
      have ze := f.now.size
      have hlf : 0 + 94 ≤ (es ++ fs).size := by simp [ze]
      have SD := hide (show (fun W => W.cell? ⟨bf, 0, none⟩ = some (.pointer (some ⟨bc, 0, none⟩)) ∧ W.heap[bc]? = some (.cells (es ++ fs) 57) ∧ W.heap[g6]? = some (.cells cs 34) ∧ W.heap[g7]? = some (.cells #[.int .i64 kind, .int .i64 dir, .int .i64 toDir, .int .i64 p, .string name, .string tu, .string text] 37)) W5.drew from ⟨f.ptr, f.row, R6W5, R7W5⟩)
      have QN := hide (show ∀ w, (binOp .neq 34 (.agg es) (.agg cs)).run Tryz.prog w = .ok (.bool false) w from fun w => by have := neqlImg f.now hi w; rwa [same_self] at this)
      clear f R6W5 R7W5
      go_wp2_with fail
      refine wp_region_held_drew (S := fun W => W.cell? ⟨bf, 0, none⟩ = some (.pointer (some ⟨bc, 0, none⟩)) ∧ W.heap[bc]? = some (.cells (es ++ fs) 57) ∧ W.heap[g6]? = some (.cells cs 34) ∧ W.heap[g7]? = some (.cells #[.int .i64 kind, .int .i64 dir, .int .i64 toDir, .int .i64 p, .string name, .string tu, .string text] 37)) (by kernel_rfl) (unhide SD) (fun hS => ?_)
      refine wpAnyH_take (i := 0) (oi := { dst := some 50, op := Op.move (Operand.tmp 3), type := 42, pos := "law05.go:151", after := #[], guard := none }) (v := .pointer (some ⟨bf, 0, none⟩)) rfl (by kernel_rfl) (by kernel_rfl) (by kernel_rfl) (fun _ _ _ h => h) (Or.inl ⟨by kernel_rfl, fun W h => (by first | kernel_rfl | go_simp)⟩) hS ?_
      try simp only [Act.put, List.setIfInBounds_toArray, List.set_cons_zero, List.set_cons_succ]
      refine wpAnyH_take (i := 1) (oi := { dst := some 51, op := Op.nilCheck (Operand.tmp 50), type := 0, pos := "law05.go:151", after := #[{ on := 0, ground := Ground.data }], guard := none }) (v := .pointer (some ⟨bf, 0, none⟩)) rfl (by kernel_rfl) (by kernel_rfl) (by kernel_rfl) (fun _ _ _ h => h) (Or.inl ⟨by kernel_rfl, fun W h => (by first | kernel_rfl | go_simp)⟩) hS ?_
      try simp only [Act.put, List.setIfInBounds_toArray, List.set_cons_zero, List.set_cons_succ]
      refine wpAnyH_take (i := 2) (oi := { dst := some 52, op := Op.fieldAddr 55 (Operand.tmp 51) 0, type := 0, pos := "law05.go:151", after := #[{ on := 1, ground := Ground.data }], guard := none }) (v := .pointer (some ⟨bf, 0, none⟩)) rfl (by kernel_rfl) (by kernel_rfl) (by kernel_rfl) (fun _ _ _ h => h) (Or.inl ⟨by kernel_rfl, fun W h => (by first | kernel_rfl | go_simp)⟩) hS ?_
      try simp only [Act.put, List.setIfInBounds_toArray, List.set_cons_zero, List.set_cons_succ]
      refine wpAnyH_take (i := 3) (oi := { dst := some 53, op := Op.load 53 (Operand.tmp 52), type := 53, pos := "law05.go:151", after := #[{ on := 2, ground := Ground.data }], guard := none }) (v := .pointer (some ⟨bc, 0, none⟩)) rfl (by kernel_rfl) (by kernel_rfl) (by kernel_rfl) (fun _ _ _ h => h) (Or.inl ⟨by kernel_rfl, fun W h => Op1.ld_ptr (.tmp 52) (by kernel_rfl) (by kernel_rfl) W (h.1)⟩) hS ?_
      try simp only [Act.put, List.setIfInBounds_toArray, List.set_cons_zero, List.set_cons_succ]
      refine wpAnyH_take (i := 4) (oi := { dst := some 54, op := Op.nilCheck (Operand.tmp 53), type := 0, pos := "law05.go:151", after := #[{ on := 3, ground := Ground.data }], guard := none }) (v := .pointer (some ⟨bc, 0, none⟩)) rfl (by kernel_rfl) (by kernel_rfl) (by kernel_rfl) (fun _ _ _ h => h) (Or.inl ⟨by kernel_rfl, fun W h => (by first | kernel_rfl | go_simp)⟩) hS ?_
      try simp only [Act.put, List.setIfInBounds_toArray, List.set_cons_zero, List.set_cons_succ]
      refine wpAnyH_take (i := 5) (oi := { dst := some 55, op := Op.fieldAddr 57 (Operand.tmp 54) 0, type := 0, pos := "law05.go:151", after := #[{ on := 4, ground := Ground.data }], guard := none }) (v := .pointer (some ⟨bc, 0, none⟩)) rfl (by kernel_rfl) (by kernel_rfl) (by kernel_rfl) (fun _ _ _ h => h) (Or.inl ⟨by kernel_rfl, fun W h => (by first | kernel_rfl | go_simp)⟩) hS ?_
      try simp only [Act.put, List.setIfInBounds_toArray, List.set_cons_zero, List.set_cons_succ]
      refine wpAnyH_take (i := 6) (oi := { dst := some 56, op := Op.load 34 (Operand.tmp 55), type := 34, pos := "law05.go:151", after := #[{ on := 5, ground := Ground.data }], guard := none }) (v := .agg es) rfl (by kernel_rfl) (by kernel_rfl) (by kernel_rfl) (fun _ _ _ h => h) (Or.inl ⟨by kernel_rfl, fun W h => run_exec_load_part 34 (.tmp 55) (by kernel_rfl) bc 0 94 (by kernel_rfl) W 57 (es ++ fs) es _ (h.2.1) img_under rfl zero_img.2 (hlf) (app_fst ze)⟩) hS ?_
      try simp only [Act.put, List.setIfInBounds_toArray, List.set_cons_zero, List.set_cons_succ]
      refine wpAnyH_take (i := 7) (oi := { dst := some 57, op := Op.load 34 (Operand.tmp 6), type := 34, pos := "law05.go:151", after := #[], guard := none }) (v := .agg cs) rfl (by kernel_rfl) (by kernel_rfl) (by kernel_rfl) (fun _ _ _ h => h) (Or.inl ⟨by kernel_rfl, fun W h => run_exec_load_part 34 (.tmp 6) (by kernel_rfl) g6 0 94 (by kernel_rfl) W 34 (cs) cs _ (h.2.2.1) img_under rfl zero_img.2 (by omega) (row_all zi)⟩) hS ?_
      try simp only [Act.put, List.setIfInBounds_toArray, List.set_cons_zero, List.set_cons_succ]
      refine wpAnyH_take (i := 8) (oi := { dst := some 58, op := Op.binOp BinOp.neq 34 (Operand.tmp 56) (Operand.tmp 57) 34, type := 4, pos := "law05.go:151", after := #[{ on := 6, ground := Ground.data }, { on := 7, ground := Ground.data }], guard := none }) (v := .bool false) rfl (by kernel_rfl) (by kernel_rfl) (by kernel_rfl) (fun _ _ _ h => h) (Or.inl ⟨by kernel_rfl, fun W h => run_exec_neql 34 34 (.tmp 56) (.tmp 57) (by kernel_rfl) es cs (by kernel_rfl) (by kernel_rfl) _ Tryz.eqGuardType34 (unhide QN) W⟩) hS ?_
      try simp only [Act.put, List.setIfInBounds_toArray, List.set_cons_zero, List.set_cons_succ]
      refine wpAnyH_done (by kernel_rfl) ?_ _
      go_wp2_with fail
      go_roundw
      case rel => exact ⟨j + 1, m, k5, last, by omega, by go_num, hide ((unhide H5).call ((Below.refl _ _).drew)), hide ((unhide K1).mono (by omega))⟩
      case measure => simp [intOf]; omega
    · go_simp
      go_wp2_with (have hx := unhide s2; refine wpList_store_row rfl 37 _ _ rfl A2.heap.size _ rfl rfl 37 _ hx (step_info ⟨kind, dir, toDir, p, name, tu, text⟩) rfl (step_all ⟨kind, dir, toDir, p, name, tu, text⟩) ?_; clear hx s2)
      generalize (A2.alloc (.cells #[.int .i64 0, .int .i64 0, .int .i64 0, .int .i64 0, .string ⟨#[]⟩, .string ⟨#[]⟩, .string ⟨#[]⟩] 37)).setRow A2.heap.size #[.int .i64 kind, .int .i64 dir, .int .i64 toDir, .int .i64 p, .string name, .string tu, .string text] = B at *
      generalize A2.heap.size = g7 at *
      generalize wr.heap.size = g6 at *
      clear c0 c1 c2 c3 c4 c5 c6
      have R6B := unhide RW
      have R7B := unhide RB
      have D1 := hide (softStep_none (unhide HB) ⟨kind, dir, toDir, p, name, tu, text⟩ (unhide HX))
      have K1 := hide ((unhide HK).disk ⟨kind, dir, toDir, p, name, tu, text⟩)
      simp only [stpA] at D1
      refine (unhide D1).mono ?_
      rintro e W5 ⟨⟨vb, rfl⟩, h5, o5, s5⟩
      have H5 := hide h5
      have R6W5 : W5.heap[g6]? = some (.cells cs 34) := by rw [o5 g6 (Array.getElem?_eq_some_iff.1 R6B).1 (unhide H6).1 (unhide H6).2.1 (unhide H6).2.2]; exact R6B
      have R7W5 : W5.heap[g7]? = some (.cells #[.int .i64 kind, .int .i64 dir, .int .i64 toDir, .int .i64 p, .string name, .string tu, .string text] 37) := by rw [o5 g7 (Array.getElem?_eq_some_iff.1 R7B).1 (unhide G7).1 (unhide G7).2.1 (unhide G7).2.2]; exact R7B
      clear h5 o5 s5 D1 HB q0 q1 q2 q3 q4 q5 q6 RW RB R6B R7B HF
      generalize Img.sdisk m k ⟨kind, dir, toDir, p, name, tu, text⟩ = k5 at H5 K1
      obtain ⟨es, fs, f⟩ := (unhide H5).fo.it
      have ze := f.now.size
      have hlf : 0 + 94 ≤ (es ++ fs).size := by simp [ze]
      have SD := hide (show (fun W => W.cell? ⟨bf, 0, none⟩ = some (.pointer (some ⟨bc, 0, none⟩)) ∧ W.heap[bc]? = some (.cells (es ++ fs) 57) ∧ W.heap[g6]? = some (.cells cs 34) ∧ W.heap[g7]? = some (.cells #[.int .i64 kind, .int .i64 dir, .int .i64 toDir, .int .i64 p, .string name, .string tu, .string text] 37)) W5.drew from ⟨f.ptr, f.row, R6W5, R7W5⟩)
      have QN := hide (show ∀ w, (binOp .neq 34 (.agg es) (.agg cs)).run Tryz.prog w = .ok (.bool false) w from fun w => by have := neqlImg f.now hi w; rwa [same_self] at this)
      clear f R6W5 R7W5
      go_wp2_with fail
      refine wp_region_held_drew (S := fun W => W.cell? ⟨bf, 0, none⟩ = some (.pointer (some ⟨bc, 0, none⟩)) ∧ W.heap[bc]? = some (.cells (es ++ fs) 57) ∧ W.heap[g6]? = some (.cells cs 34) ∧ W.heap[g7]? = some (.cells #[.int .i64 kind, .int .i64 dir, .int .i64 toDir, .int .i64 p, .string name, .string tu, .string text] 37)) (by kernel_rfl) (unhide SD) (fun hS => ?_)
      refine wpAnyH_take (i := 0) (oi := { dst := some 50, op := Op.move (Operand.tmp 3), type := 42, pos := "law05.go:151", after := #[], guard := none }) (v := .pointer (some ⟨bf, 0, none⟩)) rfl (by kernel_rfl) (by kernel_rfl) (by kernel_rfl) (fun _ _ _ h => h) (Or.inl ⟨by kernel_rfl, fun W h => (by first | kernel_rfl | go_simp)⟩) hS ?_
      try simp only [Act.put, List.setIfInBounds_toArray, List.set_cons_zero, List.set_cons_succ]
      refine wpAnyH_take (i := 1) (oi := { dst := some 51, op := Op.nilCheck (Operand.tmp 50), type := 0, pos := "law05.go:151", after := #[{ on := 0, ground := Ground.data }], guard := none }) (v := .pointer (some ⟨bf, 0, none⟩)) rfl (by kernel_rfl) (by kernel_rfl) (by kernel_rfl) (fun _ _ _ h => h) (Or.inl ⟨by kernel_rfl, fun W h => (by first | kernel_rfl | go_simp)⟩) hS ?_
      try simp only [Act.put, List.setIfInBounds_toArray, List.set_cons_zero, List.set_cons_succ]
      refine wpAnyH_take (i := 2) (oi := { dst := some 52, op := Op.fieldAddr 55 (Operand.tmp 51) 0, type := 0, pos := "law05.go:151", after := #[{ on := 1, ground := Ground.data }], guard := none }) (v := .pointer (some ⟨bf, 0, none⟩)) rfl (by kernel_rfl) (by kernel_rfl) (by kernel_rfl) (fun _ _ _ h => h) (Or.inl ⟨by kernel_rfl, fun W h => (by first | kernel_rfl | go_simp)⟩) hS ?_
      try simp only [Act.put, List.setIfInBounds_toArray, List.set_cons_zero, List.set_cons_succ]
      refine wpAnyH_take (i := 3) (oi := { dst := some 53, op := Op.load 53 (Operand.tmp 52), type := 53, pos := "law05.go:151", after := #[{ on := 2, ground := Ground.data }], guard := none }) (v := .pointer (some ⟨bc, 0, none⟩)) rfl (by kernel_rfl) (by kernel_rfl) (by kernel_rfl) (fun _ _ _ h => h) (Or.inl ⟨by kernel_rfl, fun W h => Op1.ld_ptr (.tmp 52) (by kernel_rfl) (by kernel_rfl) W (h.1)⟩) hS ?_
      try simp only [Act.put, List.setIfInBounds_toArray, List.set_cons_zero, List.set_cons_succ]
      refine wpAnyH_take (i := 4) (oi := { dst := some 54, op := Op.nilCheck (Operand.tmp 53), type := 0, pos := "law05.go:151", after := #[{ on := 3, ground := Ground.data }], guard := none }) (v := .pointer (some ⟨bc, 0, none⟩)) rfl (by kernel_rfl) (by kernel_rfl) (by kernel_rfl) (fun _ _ _ h => h) (Or.inl ⟨by kernel_rfl, fun W h => (by first | kernel_rfl | go_simp)⟩) hS ?_
      try simp only [Act.put, List.setIfInBounds_toArray, List.set_cons_zero, List.set_cons_succ]
      refine wpAnyH_take (i := 5) (oi := { dst := some 55, op := Op.fieldAddr 57 (Operand.tmp 54) 0, type := 0, pos := "law05.go:151", after := #[{ on := 4, ground := Ground.data }], guard := none }) (v := .pointer (some ⟨bc, 0, none⟩)) rfl (by kernel_rfl) (by kernel_rfl) (by kernel_rfl) (fun _ _ _ h => h) (Or.inl ⟨by kernel_rfl, fun W h => (by first | kernel_rfl | go_simp)⟩) hS ?_
      try simp only [Act.put, List.setIfInBounds_toArray, List.set_cons_zero, List.set_cons_succ]
      refine wpAnyH_take (i := 6) (oi := { dst := some 56, op := Op.load 34 (Operand.tmp 55), type := 34, pos := "law05.go:151", after := #[{ on := 5, ground := Ground.data }], guard := none }) (v := .agg es) rfl (by kernel_rfl) (by kernel_rfl) (by kernel_rfl) (fun _ _ _ h => h) (Or.inl ⟨by kernel_rfl, fun W h => run_exec_load_part 34 (.tmp 55) (by kernel_rfl) bc 0 94 (by kernel_rfl) W 57 (es ++ fs) es _ (h.2.1) img_under rfl zero_img.2 (hlf) (app_fst ze)⟩) hS ?_
      try simp only [Act.put, List.setIfInBounds_toArray, List.set_cons_zero, List.set_cons_succ]
      refine wpAnyH_take (i := 7) (oi := { dst := some 57, op := Op.load 34 (Operand.tmp 6), type := 34, pos := "law05.go:151", after := #[], guard := none }) (v := .agg cs) rfl (by kernel_rfl) (by kernel_rfl) (by kernel_rfl) (fun _ _ _ h => h) (Or.inl ⟨by kernel_rfl, fun W h => run_exec_load_part 34 (.tmp 6) (by kernel_rfl) g6 0 94 (by kernel_rfl) W 34 (cs) cs _ (h.2.2.1) img_under rfl zero_img.2 (by omega) (row_all zi)⟩) hS ?_
      try simp only [Act.put, List.setIfInBounds_toArray, List.set_cons_zero, List.set_cons_succ]
      refine wpAnyH_take (i := 8) (oi := { dst := some 58, op := Op.binOp BinOp.neq 34 (Operand.tmp 56) (Operand.tmp 57) 34, type := 4, pos := "law05.go:151", after := #[{ on := 6, ground := Ground.data }, { on := 7, ground := Ground.data }], guard := none }) (v := .bool false) rfl (by kernel_rfl) (by kernel_rfl) (by kernel_rfl) (fun _ _ _ h => h) (Or.inl ⟨by kernel_rfl, fun W h => run_exec_neql 34 34 (.tmp 56) (.tmp 57) (by kernel_rfl) es cs (by kernel_rfl) (by kernel_rfl) _ Tryz.eqGuardType34 (unhide QN) W⟩) hS ?_
      try simp only [Act.put, List.setIfInBounds_toArray, List.set_cons_zero, List.set_cons_succ]
      refine wpAnyH_done (by kernel_rfl) ?_ _
      go_wp2_with fail
      go_roundw
      case rel => exact ⟨j + 1, m, k5, last, by omega, by go_num, hide ((unhide H5).call ((Below.refl _ _).drew)), hide ((unhide K1).mono (by omega))⟩
      case measure => simp [intOf]; omega
    · by_cases hc : Img.scode m k ⟨kind, dir, toDir, p, name, tu, text⟩ = 0
      · have D1 := hide ((unhide HB).fo.step (unhide HK).good (by have := (unhide HK).few; omega) ⟨kind, dir, toDir, p, name, tu, text⟩ (unhide HXO).1 (unhide HXO).2.1 (unhide HXO).2.2)
        rw [hc] at D1
        have K1 := hide ((unhide HK).step ⟨kind, dir, toDir, p, name, tu, text⟩)
        generalize Img.sstep m k last ⟨kind, dir, toDir, p, name, tu, text⟩ = m1 at D1 K1
        generalize Img.slast m k last ⟨kind, dir, toDir, p, name, tu, text⟩ = la1 at D1 K1
        clear hc
        simp only [stpA] at D1
        go_simp
        go_wp2_with (have hx := unhide s2; refine wpList_store_row rfl 37 _ _ rfl A2.heap.size _ rfl rfl 37 _ hx (step_info ⟨kind, dir, toDir, p, name, tu, text⟩) rfl (step_all ⟨kind, dir, toDir, p, name, tu, text⟩) ?_; clear hx s2)
        generalize (A2.alloc (.cells #[.int .i64 0, .int .i64 0, .int .i64 0, .int .i64 0, .string ⟨#[]⟩, .string ⟨#[]⟩, .string ⟨#[]⟩] 37)).setRow A2.heap.size #[.int .i64 kind, .int .i64 dir, .int .i64 toDir, .int .i64 p, .string name, .string tu, .string text] = B at *
        generalize A2.heap.size = g7 at *
        generalize wr.heap.size = g6 at *
        clear c0 c1 c2 c3 c4 c5 c6
        have R6B := unhide RW
        have R7B := unhide RB
        refine (unhide D1).mono ?_
        rintro e W5 ⟨rfl, f5, c5⟩
        obtain ⟨h5, o5, s5⟩ := (unhide HB).chg f5 c5
        have H5 := hide h5
        have R6W5 : W5.heap[g6]? = some (.cells cs 34) := by rw [o5 g6 (Array.getElem?_eq_some_iff.1 R6B).1 (unhide H6).1 (unhide H6).2.1 (unhide H6).2.2]; exact R6B
        have R7W5 : W5.heap[g7]? = some (.cells #[.int .i64 kind, .int .i64 dir, .int .i64 toDir, .int .i64 p, .string name, .string tu, .string text] 37) := by rw [o5 g7 (Array.getElem?_eq_some_iff.1 R7B).1 (unhide G7).1 (unhide G7).2.1 (unhide G7).2.2]; exact R7B
        clear h5 o5 s5 f5 c5 D1 HB q0 q1 q2 q3 q4 q5 q6 RW RB R6B R7B HF
        obtain ⟨es, fs, f⟩ := (unhide H5).fo.it
        have ze := f.now.size
        have hlf : 0 + 94 ≤ (es ++ fs).size := by simp [ze]
        have SD := hide (show (fun W => W.cell? ⟨bf, 0, none⟩ = some (.pointer (some ⟨bc, 0, none⟩)) ∧ W.heap[bc]? = some (.cells (es ++ fs) 57) ∧ W.heap[g6]? = some (.cells cs 34) ∧ W.heap[g7]? = some (.cells #[.int .i64 kind, .int .i64 dir, .int .i64 toDir, .int .i64 p, .string name, .string tu, .string text] 37)) W5.drew from ⟨f.ptr, f.row, R6W5, R7W5⟩)
        have BD := hide ((Below.refl W5.heap.size W5).drew)
        have EX := hide (show ∀ W, Below W5.heap.size W5 W → Calls Tryz.prog 35 #[.pointer (some ⟨bc, 0, none⟩)] W fun e w' => e = .returned (.bool true) ∧ Below W.heap.size W w' from fun W b => by have := exact_any bc m1 W (HasAt.img (((unhide H5).call b).fo.cells.2.2.2.1)); rwa [(unhide K1).exact] at this)
        have SK := hide (show ∀ W, Below W5.heap.size W5 W → (fun W => W.cell? ⟨bf, 0, none⟩ = some (.pointer (some ⟨bc, 0, none⟩)) ∧ W.heap[bc]? = some (.cells (es ++ fs) 57) ∧ W.heap[g6]? = some (.cells cs 34) ∧ W.heap[g7]? = some (.cells #[.int .i64 kind, .int .i64 dir, .int .i64 toDir, .int .i64 p, .string name, .string tu, .string text] 37)) W from fun W b => ⟨(f.below b).ptr, (f.below b).row, by rw [b.block _ (Array.getElem?_eq_some_iff.1 R6W5).1]; exact R6W5, by rw [b.block _ (Array.getElem?_eq_some_iff.1 R7W5).1]; exact R7W5⟩)
        clear f R6W5 R7W5
        go_wp2_with fail
        refine wp_region_held_drew (S := fun W => W.cell? ⟨bf, 0, none⟩ = some (.pointer (some ⟨bc, 0, none⟩)) ∧ W.heap[bc]? = some (.cells (es ++ fs) 57) ∧ W.heap[g6]? = some (.cells cs 34) ∧ W.heap[g7]? = some (.cells #[.int .i64 kind, .int .i64 dir, .int .i64 toDir, .int .i64 p, .string name, .string tu, .string text] 37)) (by kernel_rfl) (unhide SD) (fun hS => ?_)
        refine wpAnyH_take (i := 0) (oi := { dst := some 62, op := Op.move (Operand.tmp 3), type := 42, pos := "law05.go:157", after := #[], guard := none }) (v := .pointer (some ⟨bf, 0, none⟩)) rfl (by kernel_rfl) (by kernel_rfl) (by kernel_rfl) (fun _ _ _ h => h) (Or.inl ⟨by kernel_rfl, fun W h => (by first | kernel_rfl | go_simp)⟩) hS ?_
        try simp only [Act.put, List.setIfInBounds_toArray, List.set_cons_zero, List.set_cons_succ]
        refine wpAnyH_take (i := 1) (oi := { dst := some 63, op := Op.nilCheck (Operand.tmp 62), type := 0, pos := "law05.go:157", after := #[{ on := 0, ground := Ground.data }], guard := none }) (v := .pointer (some ⟨bf, 0, none⟩)) rfl (by kernel_rfl) (by kernel_rfl) (by kernel_rfl) (fun _ _ _ h => h) (Or.inl ⟨by kernel_rfl, fun W h => (by first | kernel_rfl | go_simp)⟩) hS ?_
        try simp only [Act.put, List.setIfInBounds_toArray, List.set_cons_zero, List.set_cons_succ]
        refine wpAnyH_take (i := 2) (oi := { dst := some 64, op := Op.fieldAddr 55 (Operand.tmp 63) 0, type := 0, pos := "law05.go:157", after := #[{ on := 1, ground := Ground.data }], guard := none }) (v := .pointer (some ⟨bf, 0, none⟩)) rfl (by kernel_rfl) (by kernel_rfl) (by kernel_rfl) (fun _ _ _ h => h) (Or.inl ⟨by kernel_rfl, fun W h => (by first | kernel_rfl | go_simp)⟩) hS ?_
        try simp only [Act.put, List.setIfInBounds_toArray, List.set_cons_zero, List.set_cons_succ]
        refine wpAnyH_take (i := 3) (oi := { dst := some 65, op := Op.load 53 (Operand.tmp 64), type := 53, pos := "law05.go:157", after := #[{ on := 2, ground := Ground.data }], guard := none }) (v := .pointer (some ⟨bc, 0, none⟩)) rfl (by kernel_rfl) (by kernel_rfl) (by kernel_rfl) (fun _ _ _ h => h) (Or.inl ⟨by kernel_rfl, fun W h => Op1.ld_ptr (.tmp 64) (by kernel_rfl) (by kernel_rfl) W (h.1)⟩) hS ?_
        try simp only [Act.put, List.setIfInBounds_toArray, List.set_cons_zero, List.set_cons_succ]
        refine wpAnyH_take (i := 4) (oi := { dst := some 66, op := Op.nilCheck (Operand.tmp 65), type := 0, pos := "law05.go:157", after := #[{ on := 3, ground := Ground.data }], guard := none }) (v := .pointer (some ⟨bc, 0, none⟩)) rfl (by kernel_rfl) (by kernel_rfl) (by kernel_rfl) (fun _ _ _ h => h) (Or.inl ⟨by kernel_rfl, fun W h => (by first | kernel_rfl | go_simp)⟩) hS ?_
        try simp only [Act.put, List.setIfInBounds_toArray, List.set_cons_zero, List.set_cons_succ]
        refine wpAnyH_take (i := 5) (oi := { dst := some 67, op := Op.fieldAddr 57 (Operand.tmp 66) 0, type := 0, pos := "law05.go:157", after := #[{ on := 4, ground := Ground.data }], guard := none }) (v := .pointer (some ⟨bc, 0, none⟩)) rfl (by kernel_rfl) (by kernel_rfl) (by kernel_rfl) (fun _ _ _ h => h) (Or.inl ⟨by kernel_rfl, fun W h => (by first | kernel_rfl | go_simp)⟩) hS ?_
        try simp only [Act.put, List.setIfInBounds_toArray, List.set_cons_zero, List.set_cons_succ]
        refine wpAnyH_ready (rs := [6]) (by kernel_rfl) (by simp) ?_
        refine AllReadyH.cons (o := { dst := some 68, op := Op.call { callee := Callee.value (Operand.func 35), args := #[Operand.tmp 67], argTypes := #[50] }, type := 4, pos := "law05.go:157", after := #[{ on := 5, ground := Ground.data }], guard := none }) rfl (fun K hK => ?_) AllReadyH.nil
        rw [if_pos (by kernel_rfl)]
        go_simp
        refine (unhide EX _ (unhide BD)).mono ?_
        rintro e W6 ⟨rfl, b6⟩
        have B6 := hide ((unhide BD).trans (b6.mono (unhide BD).size))
        have S6 := hide (unhide SK W6 (unhide B6))
        clear b6
        go_wp2_with fail
        refine hK.out _ _ (unhide S6) (fun hS6 => ?_)
        clear hK K
        try simp only [Act.put, List.setIfInBounds_toArray, List.set_cons_zero, List.set_cons_succ]
        refine wpAnyH_take (i := 7) (oi := { dst := some 69, op := Op.unOp UnOp.not 4 (Operand.tmp 68), type := 4, pos := "law05.go:157", after := #[{ on := 6, ground := Ground.data }], guard := none }) (v := .bool false) rfl (by kernel_rfl) (by kernel_rfl) (by kernel_rfl) (fun _ _ _ h => h) (Or.inl ⟨by kernel_rfl, fun W h => (by first | kernel_rfl | go_simp)⟩) hS6 ?_
        try simp only [Act.put, List.setIfInBounds_toArray, List.set_cons_zero, List.set_cons_succ]
        refine wpAnyH_take (i := 8) (oi := { dst := some 70, op := Op.move (Operand.tmp 69), type := 4, pos := "law05.go:157", after := #[{ on := 7, ground := Ground.data }, { on := 6, ground := Ground.chain }], guard := none }) (v := .bool false) rfl (by kernel_rfl) (by kernel_rfl) (by kernel_rfl) (fun _ _ _ h => h) (Or.inl ⟨by kernel_rfl, fun W h => (by first | kernel_rfl | go_simp)⟩) hS6 ?_
        try simp only [Act.put, List.setIfInBounds_toArray, List.set_cons_zero, List.set_cons_succ]
        refine wpAnyH_take (i := 9) (oi := { dst := some 71, op := Op.move (Operand.tmp 8), type := 3, pos := "law05.go:157", after := #[{ on := 8, ground := Ground.guard }], guard := some (8, false) }) (v := .int .i64 0) rfl (by kernel_rfl) (by kernel_rfl) (by kernel_rfl) (fun _ _ _ h => h) (Or.inl ⟨by kernel_rfl, fun W h => (by first | kernel_rfl | go_simp)⟩) hS6 ?_
        try simp only [Act.put, List.setIfInBounds_toArray, List.set_cons_zero, List.set_cons_succ]
        refine wpAnyH_take (i := 10) (oi := { dst := some 72, op := Op.binOp BinOp.neq 3 (Operand.tmp 71) (Operand.const (Value.int IntKind.i64 0)) 3, type := 4, pos := "law05.go:157", after := #[{ on := 9, ground := Ground.data }, { on := 8, ground := Ground.guard }], guard := some (8, false) }) (v := .bool false) rfl (by kernel_rfl) (by kernel_rfl) (by kernel_rfl) (fun _ _ _ h => h) (Or.inl ⟨by kernel_rfl, fun W h => (by first | kernel_rfl | go_simp)⟩) hS6 ?_
        try simp only [Act.put, List.setIfInBounds_toArray, List.set_cons_zero, List.set_cons_succ]
        refine wpAnyH_take (i := 11) (oi := { dst := some 73, op := Op.move (Operand.tmp 72), type := 4, pos := "law05.go:157", after := #[{ on := 10, ground := Ground.data }, { on := 8, ground := Ground.chain }, { on := 8, ground := Ground.guard }], guard := some (8, false) }) (v := .bool false) rfl (by kernel_rfl) (by kernel_rfl) (by kernel_rfl) (fun _ _ _ h => h) (Or.inl ⟨by kernel_rfl, fun W h => (by first | kernel_rfl | go_simp)⟩) hS6 ?_
        try simp only [Act.put, List.setIfInBounds_toArray, List.set_cons_zero, List.set_cons_succ]
        refine wpAnyH_take (i := 12) (oi := { dst := some 74, op := Op.move (Operand.tmp 3), type := 42, pos := "law05.go:157", after := #[{ on := 11, ground := Ground.guard }], guard := some (11, true) }) (v := undef) rfl (by kernel_rfl) (by kernel_rfl) (by kernel_rfl) (fun _ _ _ h => h) (Or.inr ⟨by kernel_rfl, rfl⟩) hS6 ?_
        try simp only [Act.put, List.setIfInBounds_toArray, List.set_cons_zero, List.set_cons_succ]
        refine wpAnyH_take (i := 13) (oi := { dst := some 75, op := Op.nilCheck (Operand.tmp 74), type := 0, pos := "law05.go:157", after := #[{ on := 12, ground := Ground.data }, { on := 11, ground := Ground.guard }], guard := some (11, true) }) (v := undef) rfl (by kernel_rfl) (by kernel_rfl) (by kernel_rfl) (fun _ _ _ h => h) (Or.inr ⟨by kernel_rfl, rfl⟩) hS6 ?_
        try simp only [Act.put, List.setIfInBounds_toArray, List.set_cons_zero, List.set_cons_succ]
        refine wpAnyH_take (i := 14) (oi := { dst := some 76, op := Op.fieldAddr 55 (Operand.tmp 75) 0, type := 0, pos := "law05.go:157", after := #[{ on := 13, ground := Ground.data }, { on := 11, ground := Ground.guard }], guard := some (11, true) }) (v := undef) rfl (by kernel_rfl) (by kernel_rfl) (by kernel_rfl) (fun _ _ _ h => h) (Or.inr ⟨by kernel_rfl, rfl⟩) hS6 ?_
        try simp only [Act.put, List.setIfInBounds_toArray, List.set_cons_zero, List.set_cons_succ]
        refine wpAnyH_take (i := 15) (oi := { dst := some 77, op := Op.load 53 (Operand.tmp 76), type := 53, pos := "law05.go:157", after := #[{ on := 14, ground := Ground.data }, { on := 11, ground := Ground.guard }], guard := some (11, true) }) (v := undef) rfl (by kernel_rfl) (by kernel_rfl) (by kernel_rfl) (fun _ _ _ h => h) (Or.inr ⟨by kernel_rfl, rfl⟩) hS6 ?_
        try simp only [Act.put, List.setIfInBounds_toArray, List.set_cons_zero, List.set_cons_succ]
        refine wpAnyH_take (i := 16) (oi := { dst := some 78, op := Op.nilCheck (Operand.tmp 77), type := 0, pos := "law05.go:157", after := #[{ on := 15, ground := Ground.data }, { on := 11, ground := Ground.guard }], guard := some (11, true) }) (v := undef) rfl (by kernel_rfl) (by kernel_rfl) (by kernel_rfl) (fun _ _ _ h => h) (Or.inr ⟨by kernel_rfl, rfl⟩) hS6 ?_
        try simp only [Act.put, List.setIfInBounds_toArray, List.set_cons_zero, List.set_cons_succ]
        refine wpAnyH_take (i := 17) (oi := { dst := some 79, op := Op.fieldAddr 57 (Operand.tmp 78) 0, type := 0, pos := "law05.go:157", after := #[{ on := 16, ground := Ground.data }, { on := 11, ground := Ground.guard }], guard := some (11, true) }) (v := undef) rfl (by kernel_rfl) (by kernel_rfl) (by kernel_rfl) (fun _ _ _ h => h) (Or.inr ⟨by kernel_rfl, rfl⟩) hS6 ?_
        try simp only [Act.put, List.setIfInBounds_toArray, List.set_cons_zero, List.set_cons_succ]
        refine wpAnyH_take (i := 18) (oi := { dst := some 80, op := Op.load 34 (Operand.tmp 79), type := 34, pos := "law05.go:157", after := #[{ on := 17, ground := Ground.data }, { on := 11, ground := Ground.guard }], guard := some (11, true) }) (v := undef) rfl (by kernel_rfl) (by kernel_rfl) (by kernel_rfl) (fun _ _ _ h => h) (Or.inr ⟨by kernel_rfl, rfl⟩) hS6 ?_
        try simp only [Act.put, List.setIfInBounds_toArray, List.set_cons_zero, List.set_cons_succ]
        refine wpAnyH_take (i := 19) (oi := { dst := some 81, op := Op.load 34 (Operand.tmp 6), type := 34, pos := "law05.go:157", after := #[{ on := 11, ground := Ground.guard }], guard := some (11, true) }) (v := undef) rfl (by kernel_rfl) (by kernel_rfl) (by kernel_rfl) (fun _ _ _ h => h) (Or.inr ⟨by kernel_rfl, rfl⟩) hS6 ?_
        try simp only [Act.put, List.setIfInBounds_toArray, List.set_cons_zero, List.set_cons_succ]
        refine wpAnyH_take (i := 20) (oi := { dst := some 82, op := Op.binOp BinOp.neq 34 (Operand.tmp 80) (Operand.tmp 81) 34, type := 4, pos := "law05.go:157", after := #[{ on := 18, ground := Ground.data }, { on := 19, ground := Ground.data }, { on := 11, ground := Ground.guard }], guard := some (11, true) }) (v := undef) rfl (by kernel_rfl) (by kernel_rfl) (by kernel_rfl) (fun _ _ _ h => h) (Or.inr ⟨by kernel_rfl, rfl⟩) hS6 ?_
        try simp only [Act.put, List.setIfInBounds_toArray, List.set_cons_zero, List.set_cons_succ]
        refine wpAnyH_take (i := 21) (oi := { dst := some 83, op := Op.pick (Operand.tmp 73) (Operand.tmp 82) (Operand.const (Value.bool false)), type := 4, pos := "law05.go:157", after := #[{ on := 11, ground := Ground.data }, { on := 20, ground := Ground.data }, { on := 8, ground := Ground.guard }], guard := some (8, false) }) (v := .bool false) rfl (by kernel_rfl) (by kernel_rfl) (by kernel_rfl) (fun _ _ _ h => h) (Or.inl ⟨by kernel_rfl, fun W h => (by first | kernel_rfl | go_simp)⟩) hS6 ?_
        try simp only [Act.put, List.setIfInBounds_toArray, List.set_cons_zero, List.set_cons_succ]
        refine wpAnyH_take (i := 22) (oi := { dst := some 84, op := Op.pick (Operand.tmp 70) (Operand.const (Value.bool true)) (Operand.tmp 83), type := 4, pos := "law05.go:157", after := #[{ on := 8, ground := Ground.data }, { on := 21, ground := Ground.data }], guard := none }) (v := .bool false) rfl (by kernel_rfl) (by kernel_rfl) (by kernel_rfl) (fun _ _ _ h => h) (Or.inl ⟨by kernel_rfl, fun W h => (by first | kernel_rfl | go_simp)⟩) hS6 ?_
        try simp only [Act.put, List.setIfInBounds_toArray, List.set_cons_zero, List.set_cons_succ]
        refine wpAnyH_done (by kernel_rfl) ?_ _
        go_wp2_with fail
        go_roundw
        case rel => exact ⟨j + 1, m1, k, la1, by omega, by go_num, hide ((unhide H5).call (unhide B6)), hide ((unhide K1).mono (by omega))⟩
        case measure => simp [intOf]; omega
      · have hn0 := hc
        clear hc
        by_cases hc : Img.scode m k ⟨kind, dir, toDir, p, name, tu, text⟩ = 6
        · have D1 := hide ((unhide HB).fo.step (unhide HK).good (by have := (unhide HK).few; omega) ⟨kind, dir, toDir, p, name, tu, text⟩ (unhide HXO).1 (unhide HXO).2.1 (unhide HXO).2.2)
          have K1 := hide ((unhide HK).step ⟨kind, dir, toDir, p, name, tu, text⟩)
          rw [Img.sstep_code hn0, Img.slast_code hn0] at D1 K1
          rw [hc] at D1
          have CN := hide (show ((6 : Int) != 0) = true from rfl)
          clear hc hn0
          simp only [stpA] at D1
          go_simp
          go_wp2_with (have hx := unhide s2; refine wpList_store_row rfl 37 _ _ rfl A2.heap.size _ rfl rfl 37 _ hx (step_info ⟨kind, dir, toDir, p, name, tu, text⟩) rfl (step_all ⟨kind, dir, toDir, p, name, tu, text⟩) ?_; clear hx s2)
          generalize (A2.alloc (.cells #[.int .i64 0, .int .i64 0, .int .i64 0, .int .i64 0, .string ⟨#[]⟩, .string ⟨#[]⟩, .string ⟨#[]⟩] 37)).setRow A2.heap.size #[.int .i64 kind, .int .i64 dir, .int .i64 toDir, .int .i64 p, .string name, .string tu, .string text] = B at *
          generalize A2.heap.size = g7 at *
          generalize wr.heap.size = g6 at *
          clear c0 c1 c2 c3 c4 c5 c6
          have R6B := unhide RW
          have R7B := unhide RB
          refine (unhide D1).mono ?_
          rintro e W5 ⟨rfl, f5, c5⟩
          obtain ⟨h5, o5, s5⟩ := (unhide HB).chg f5 c5
          have H5 := hide h5
          have R6W5 : W5.heap[g6]? = some (.cells cs 34) := by rw [o5 g6 (Array.getElem?_eq_some_iff.1 R6B).1 (unhide H6).1 (unhide H6).2.1 (unhide H6).2.2]; exact R6B
          have R7W5 : W5.heap[g7]? = some (.cells #[.int .i64 kind, .int .i64 dir, .int .i64 toDir, .int .i64 p, .string name, .string tu, .string text] 37) := by rw [o5 g7 (Array.getElem?_eq_some_iff.1 R7B).1 (unhide G7).1 (unhide G7).2.1 (unhide G7).2.2]; exact R7B
          clear h5 o5 s5 f5 c5 D1 HB q0 q1 q2 q3 q4 q5 q6 RW RB R6B R7B HF
          obtain ⟨es, fs, f⟩ := (unhide H5).fo.it
          have ze := f.now.size
          have hlf : 0 + 94 ≤ (es ++ fs).size := by simp [ze]
          have SD := hide (show (fun W => W.cell? ⟨bf, 0, none⟩ = some (.pointer (some ⟨bc, 0, none⟩)) ∧ W.heap[bc]? = some (.cells (es ++ fs) 57) ∧ W.heap[g6]? = some (.cells cs 34) ∧ W.heap[g7]? = some (.cells #[.int .i64 kind, .int .i64 dir, .int .i64 toDir, .int .i64 p, .string name, .string tu, .string text] 37)) W5.drew from ⟨f.ptr, f.row, R6W5, R7W5⟩)
          have QN := hide (show ∀ w, (binOp .neq 34 (.agg es) (.agg cs)).run Tryz.prog w = .ok (.bool false) w from fun w => by have := neqlImg f.now hi w; rwa [same_self] at this)
          have BD := hide ((Below.refl W5.heap.size W5).drew)
          have EX := hide (show ∀ W, Below W5.heap.size W5 W → Calls Tryz.prog 35 #[.pointer (some ⟨bc, 0, none⟩)] W fun e w' => e = .returned (.bool true) ∧ Below W.heap.size W w' from fun W b => by have := exact_any bc m W (HasAt.img (((unhide H5).call b).fo.cells.2.2.2.1)); rwa [(unhide K1).exact] at this)
          have SK := hide (show ∀ W, Below W5.heap.size W5 W → (fun W => W.cell? ⟨bf, 0, none⟩ = some (.pointer (some ⟨bc, 0, none⟩)) ∧ W.heap[bc]? = some (.cells (es ++ fs) 57) ∧ W.heap[g6]? = some (.cells cs 34) ∧ W.heap[g7]? = some (.cells #[.int .i64 kind, .int .i64 dir, .int .i64 toDir, .int .i64 p, .string name, .string tu, .string text] 37)) W from fun W b => ⟨(f.below b).ptr, (f.below b).row, by rw [b.block _ (Array.getElem?_eq_some_iff.1 R6W5).1]; exact R6W5, by rw [b.block _ (Array.getElem?_eq_some_iff.1 R7W5).1]; exact R7W5⟩)
          clear f R6W5 R7W5
          go_wp2_with fail
          refine wp_region_held_drew (S := fun W => W.cell? ⟨bf, 0, none⟩ = some (.pointer (some ⟨bc, 0, none⟩)) ∧ W.heap[bc]? = some (.cells (es ++ fs) 57) ∧ W.heap[g6]? = some (.cells cs 34) ∧ W.heap[g7]? = some (.cells #[.int .i64 kind, .int .i64 dir, .int .i64 toDir, .int .i64 p, .string name, .string tu, .string text] 37)) (by kernel_rfl) (unhide SD) (fun hS => ?_)
          refine wpAnyH_take (i := 0) (oi := { dst := some 62, op := Op.move (Operand.tmp 3), type := 42, pos := "law05.go:157", after := #[], guard := none }) (v := .pointer (some ⟨bf, 0, none⟩)) rfl (by kernel_rfl) (by kernel_rfl) (by kernel_rfl) (fun _ _ _ h => h) (Or.inl ⟨by kernel_rfl, fun W h => (by first | kernel_rfl | go_simp)⟩) hS ?_
          try simp only [Act.put, List.setIfInBounds_toArray, List.set_cons_zero, List.set_cons_succ]
          refine wpAnyH_take (i := 1) (oi := { dst := some 63, op := Op.nilCheck (Operand.tmp 62), type := 0, pos := "law05.go:157", after := #[{ on := 0, ground := Ground.data }], guard := none }) (v := .pointer (some ⟨bf, 0, none⟩)) rfl (by kernel_rfl) (by kernel_rfl) (by kernel_rfl) (fun _ _ _ h => h) (Or.inl ⟨by kernel_rfl, fun W h => (by first | kernel_rfl | go_simp)⟩) hS ?_
          try simp only [Act.put, List.setIfInBounds_toArray, List.set_cons_zero, List.set_cons_succ]
          refine wpAnyH_take (i := 2) (oi := { dst := some 64, op := Op.fieldAddr 55 (Operand.tmp 63) 0, type := 0, pos := "law05.go:157", after := #[{ on := 1, ground := Ground.data }], guard := none }) (v := .pointer (some ⟨bf, 0, none⟩)) rfl (by kernel_rfl) (by kernel_rfl) (by kernel_rfl) (fun _ _ _ h => h) (Or.inl ⟨by kernel_rfl, fun W h => (by first | kernel_rfl | go_simp)⟩) hS ?_
          try simp only [Act.put, List.setIfInBounds_toArray, List.set_cons_zero, List.set_cons_succ]
          refine wpAnyH_take (i := 3) (oi := { dst := some 65, op := Op.load 53 (Operand.tmp 64), type := 53, pos := "law05.go:157", after := #[{ on := 2, ground := Ground.data }], guard := none }) (v := .pointer (some ⟨bc, 0, none⟩)) rfl (by kernel_rfl) (by kernel_rfl) (by kernel_rfl) (fun _ _ _ h => h) (Or.inl ⟨by kernel_rfl, fun W h => Op1.ld_ptr (.tmp 64) (by kernel_rfl) (by kernel_rfl) W (h.1)⟩) hS ?_
          try simp only [Act.put, List.setIfInBounds_toArray, List.set_cons_zero, List.set_cons_succ]
          refine wpAnyH_take (i := 4) (oi := { dst := some 66, op := Op.nilCheck (Operand.tmp 65), type := 0, pos := "law05.go:157", after := #[{ on := 3, ground := Ground.data }], guard := none }) (v := .pointer (some ⟨bc, 0, none⟩)) rfl (by kernel_rfl) (by kernel_rfl) (by kernel_rfl) (fun _ _ _ h => h) (Or.inl ⟨by kernel_rfl, fun W h => (by first | kernel_rfl | go_simp)⟩) hS ?_
          try simp only [Act.put, List.setIfInBounds_toArray, List.set_cons_zero, List.set_cons_succ]
          refine wpAnyH_take (i := 5) (oi := { dst := some 67, op := Op.fieldAddr 57 (Operand.tmp 66) 0, type := 0, pos := "law05.go:157", after := #[{ on := 4, ground := Ground.data }], guard := none }) (v := .pointer (some ⟨bc, 0, none⟩)) rfl (by kernel_rfl) (by kernel_rfl) (by kernel_rfl) (fun _ _ _ h => h) (Or.inl ⟨by kernel_rfl, fun W h => (by first | kernel_rfl | go_simp)⟩) hS ?_
          try simp only [Act.put, List.setIfInBounds_toArray, List.set_cons_zero, List.set_cons_succ]
          refine wpAnyH_ready (rs := [6]) (by kernel_rfl) (by simp) ?_
          refine AllReadyH.cons (o := { dst := some 68, op := Op.call { callee := Callee.value (Operand.func 35), args := #[Operand.tmp 67], argTypes := #[50] }, type := 4, pos := "law05.go:157", after := #[{ on := 5, ground := Ground.data }], guard := none }) rfl (fun K hK => ?_) AllReadyH.nil
          rw [if_pos (by kernel_rfl)]
          go_simp
          refine (unhide EX _ (unhide BD)).mono ?_
          rintro e W6 ⟨rfl, b6⟩
          have B6 := hide ((unhide BD).trans (b6.mono (unhide BD).size))
          have S6 := hide (unhide SK W6 (unhide B6))
          clear b6
          go_wp2_with fail
          refine hK.out _ _ (unhide S6) (fun hS6 => ?_)
          clear hK K
          try simp only [Act.put, List.setIfInBounds_toArray, List.set_cons_zero, List.set_cons_succ]
          refine wpAnyH_take (i := 7) (oi := { dst := some 69, op := Op.unOp UnOp.not 4 (Operand.tmp 68), type := 4, pos := "law05.go:157", after := #[{ on := 6, ground := Ground.data }], guard := none }) (v := .bool false) rfl (by kernel_rfl) (by kernel_rfl) (by kernel_rfl) (fun _ _ _ h => h) (Or.inl ⟨by kernel_rfl, fun W h => (by first | kernel_rfl | go_simp)⟩) hS6 ?_
          try simp only [Act.put, List.setIfInBounds_toArray, List.set_cons_zero, List.set_cons_succ]
          refine wpAnyH_take (i := 8) (oi := { dst := some 70, op := Op.move (Operand.tmp 69), type := 4, pos := "law05.go:157", after := #[{ on := 7, ground := Ground.data }, { on := 6, ground := Ground.chain }], guard := none }) (v := .bool false) rfl (by kernel_rfl) (by kernel_rfl) (by kernel_rfl) (fun _ _ _ h => h) (Or.inl ⟨by kernel_rfl, fun W h => (by first | kernel_rfl | go_simp)⟩) hS6 ?_
          try simp only [Act.put, List.setIfInBounds_toArray, List.set_cons_zero, List.set_cons_succ]
          refine wpAnyH_take (i := 9) (oi := { dst := some 71, op := Op.move (Operand.tmp 8), type := 3, pos := "law05.go:157", after := #[{ on := 8, ground := Ground.guard }], guard := some (8, false) }) (v := .int .i64 6) rfl (by kernel_rfl) (by kernel_rfl) (by kernel_rfl) (fun _ _ _ h => h) (Or.inl ⟨by kernel_rfl, fun W h => (by first | kernel_rfl | go_simp)⟩) hS6 ?_
          try simp only [Act.put, List.setIfInBounds_toArray, List.set_cons_zero, List.set_cons_succ]
          refine wpAnyH_take (i := 10) (oi := { dst := some 72, op := Op.binOp BinOp.neq 3 (Operand.tmp 71) (Operand.const (Value.int IntKind.i64 0)) 3, type := 4, pos := "law05.go:157", after := #[{ on := 9, ground := Ground.data }, { on := 8, ground := Ground.guard }], guard := some (8, false) }) (v := .bool true) rfl (by kernel_rfl) (by kernel_rfl) (by kernel_rfl) (fun _ _ _ h => h) (Or.inl ⟨by kernel_rfl, fun W h => Op1.neq0 (.tmp 71) (by kernel_rfl) (by kernel_rfl) (by kernel_rfl) (unhide CN) W⟩) hS6 ?_
          try simp only [Act.put, List.setIfInBounds_toArray, List.set_cons_zero, List.set_cons_succ]
          refine wpAnyH_take (i := 11) (oi := { dst := some 73, op := Op.move (Operand.tmp 72), type := 4, pos := "law05.go:157", after := #[{ on := 10, ground := Ground.data }, { on := 8, ground := Ground.chain }, { on := 8, ground := Ground.guard }], guard := some (8, false) }) (v := .bool true) rfl (by kernel_rfl) (by kernel_rfl) (by kernel_rfl) (fun _ _ _ h => h) (Or.inl ⟨by kernel_rfl, fun W h => (by first | kernel_rfl | go_simp)⟩) hS6 ?_
          try simp only [Act.put, List.setIfInBounds_toArray, List.set_cons_zero, List.set_cons_succ]
          refine wpAnyH_take (i := 12) (oi := { dst := some 74, op := Op.move (Operand.tmp 3), type := 42, pos := "law05.go:157", after := #[{ on := 11, ground := Ground.guard }], guard := some (11, true) }) (v := .pointer (some ⟨bf, 0, none⟩)) rfl (by kernel_rfl) (by kernel_rfl) (by kernel_rfl) (fun _ _ _ h => h) (Or.inl ⟨by kernel_rfl, fun W h => (by first | kernel_rfl | go_simp)⟩) hS6 ?_
          try simp only [Act.put, List.setIfInBounds_toArray, List.set_cons_zero, List.set_cons_succ]
          refine wpAnyH_take (i := 13) (oi := { dst := some 75, op := Op.nilCheck (Operand.tmp 74), type := 0, pos := "law05.go:157", after := #[{ on := 12, ground := Ground.data }, { on := 11, ground := Ground.guard }], guard := some (11, true) }) (v := .pointer (some ⟨bf, 0, none⟩)) rfl (by kernel_rfl) (by kernel_rfl) (by kernel_rfl) (fun _ _ _ h => h) (Or.inl ⟨by kernel_rfl, fun W h => (by first | kernel_rfl | go_simp)⟩) hS6 ?_
          try simp only [Act.put, List.setIfInBounds_toArray, List.set_cons_zero, List.set_cons_succ]
          refine wpAnyH_take (i := 14) (oi := { dst := some 76, op := Op.fieldAddr 55 (Operand.tmp 75) 0, type := 0, pos := "law05.go:157", after := #[{ on := 13, ground := Ground.data }, { on := 11, ground := Ground.guard }], guard := some (11, true) }) (v := .pointer (some ⟨bf, 0, none⟩)) rfl (by kernel_rfl) (by kernel_rfl) (by kernel_rfl) (fun _ _ _ h => h) (Or.inl ⟨by kernel_rfl, fun W h => (by first | kernel_rfl | go_simp)⟩) hS6 ?_
          try simp only [Act.put, List.setIfInBounds_toArray, List.set_cons_zero, List.set_cons_succ]
          refine wpAnyH_take (i := 15) (oi := { dst := some 77, op := Op.load 53 (Operand.tmp 76), type := 53, pos := "law05.go:157", after := #[{ on := 14, ground := Ground.data }, { on := 11, ground := Ground.guard }], guard := some (11, true) }) (v := .pointer (some ⟨bc, 0, none⟩)) rfl (by kernel_rfl) (by kernel_rfl) (by kernel_rfl) (fun _ _ _ h => h) (Or.inl ⟨by kernel_rfl, fun W h => Op1.ld_ptr (.tmp 76) (by kernel_rfl) (by kernel_rfl) W (h.1)⟩) hS6 ?_
          try simp only [Act.put, List.setIfInBounds_toArray, List.set_cons_zero, List.set_cons_succ]
          refine wpAnyH_take (i := 16) (oi := { dst := some 78, op := Op.nilCheck (Operand.tmp 77), type := 0, pos := "law05.go:157", after := #[{ on := 15, ground := Ground.data }, { on := 11, ground := Ground.guard }], guard := some (11, true) }) (v := .pointer (some ⟨bc, 0, none⟩)) rfl (by kernel_rfl) (by kernel_rfl) (by kernel_rfl) (fun _ _ _ h => h) (Or.inl ⟨by kernel_rfl, fun W h => (by first | kernel_rfl | go_simp)⟩) hS6 ?_
          try simp only [Act.put, List.setIfInBounds_toArray, List.set_cons_zero, List.set_cons_succ]
          refine wpAnyH_take (i := 17) (oi := { dst := some 79, op := Op.fieldAddr 57 (Operand.tmp 78) 0, type := 0, pos := "law05.go:157", after := #[{ on := 16, ground := Ground.data }, { on := 11, ground := Ground.guard }], guard := some (11, true) }) (v := .pointer (some ⟨bc, 0, none⟩)) rfl (by kernel_rfl) (by kernel_rfl) (by kernel_rfl) (fun _ _ _ h => h) (Or.inl ⟨by kernel_rfl, fun W h => (by first | kernel_rfl | go_simp)⟩) hS6 ?_
          try simp only [Act.put, List.setIfInBounds_toArray, List.set_cons_zero, List.set_cons_succ]
          refine wpAnyH_take (i := 18) (oi := { dst := some 80, op := Op.load 34 (Operand.tmp 79), type := 34, pos := "law05.go:157", after := #[{ on := 17, ground := Ground.data }, { on := 11, ground := Ground.guard }], guard := some (11, true) }) (v := .agg es) rfl (by kernel_rfl) (by kernel_rfl) (by kernel_rfl) (fun _ _ _ h => h) (Or.inl ⟨by kernel_rfl, fun W h => run_exec_load_part 34 (.tmp 79) (by kernel_rfl) bc 0 94 (by kernel_rfl) W 57 (es ++ fs) es _ (h.2.1) img_under rfl zero_img.2 (hlf) (app_fst ze)⟩) hS6 ?_
          try simp only [Act.put, List.setIfInBounds_toArray, List.set_cons_zero, List.set_cons_succ]
          refine wpAnyH_take (i := 19) (oi := { dst := some 81, op := Op.load 34 (Operand.tmp 6), type := 34, pos := "law05.go:157", after := #[{ on := 11, ground := Ground.guard }], guard := some (11, true) }) (v := .agg cs) rfl (by kernel_rfl) (by kernel_rfl) (by kernel_rfl) (fun _ _ _ h => h) (Or.inl ⟨by kernel_rfl, fun W h => run_exec_load_part 34 (.tmp 6) (by kernel_rfl) g6 0 94 (by kernel_rfl) W 34 (cs) cs _ (h.2.2.1) img_under rfl zero_img.2 (by omega) (row_all zi)⟩) hS6 ?_
          try simp only [Act.put, List.setIfInBounds_toArray, List.set_cons_zero, List.set_cons_succ]
          refine wpAnyH_take (i := 20) (oi := { dst := some 82, op := Op.binOp BinOp.neq 34 (Operand.tmp 80) (Operand.tmp 81) 34, type := 4, pos := "law05.go:157", after := #[{ on := 18, ground := Ground.data }, { on := 19, ground := Ground.data }, { on := 11, ground := Ground.guard }], guard := some (11, true) }) (v := .bool false) rfl (by kernel_rfl) (by kernel_rfl) (by kernel_rfl) (fun _ _ _ h => h) (Or.inl ⟨by kernel_rfl, fun W h => run_exec_neql 34 34 (.tmp 80) (.tmp 81) (by kernel_rfl) es cs (by kernel_rfl) (by kernel_rfl) _ Tryz.eqGuardType34 (unhide QN) W⟩) hS6 ?_
          try simp only [Act.put, List.setIfInBounds_toArray, List.set_cons_zero, List.set_cons_succ]
          refine wpAnyH_take (i := 21) (oi := { dst := some 83, op := Op.pick (Operand.tmp 73) (Operand.tmp 82) (Operand.const (Value.bool false)), type := 4, pos := "law05.go:157", after := #[{ on := 11, ground := Ground.data }, { on := 20, ground := Ground.data }, { on := 8, ground := Ground.guard }], guard := some (8, false) }) (v := .bool false) rfl (by kernel_rfl) (by kernel_rfl) (by kernel_rfl) (fun _ _ _ h => h) (Or.inl ⟨by kernel_rfl, fun W h => (by first | kernel_rfl | go_simp)⟩) hS6 ?_
          try simp only [Act.put, List.setIfInBounds_toArray, List.set_cons_zero, List.set_cons_succ]
          refine wpAnyH_take (i := 22) (oi := { dst := some 84, op := Op.pick (Operand.tmp 70) (Operand.const (Value.bool true)) (Operand.tmp 83), type := 4, pos := "law05.go:157", after := #[{ on := 8, ground := Ground.data }, { on := 21, ground := Ground.data }], guard := none }) (v := .bool false) rfl (by kernel_rfl) (by kernel_rfl) (by kernel_rfl) (fun _ _ _ h => h) (Or.inl ⟨by kernel_rfl, fun W h => (by first | kernel_rfl | go_simp)⟩) hS6 ?_
          try simp only [Act.put, List.setIfInBounds_toArray, List.set_cons_zero, List.set_cons_succ]
          refine wpAnyH_done (by kernel_rfl) ?_ _
          have HW6 := hide ((unhide H5).call (unhide B6))
          have R6W6 := hS6.2.2.1
          have R7W6 := hS6.2.2.2
          obtain ⟨p6, l6, l7, _, _⟩ := (unhide HW6).fo.cells
          clear hS6 S6 SK EX QN SD H5 BD B6
          go_wp2_with fail
          refine ((unhide HW6).fo.sync).mono ?_
          rintro e W7 ⟨rfl, f7, m7⟩
          obtain ⟨h7, o7, s7⟩ := (unhide HW6).fmut f7 m7
          have H7 := hide h7
          have K7 := hide ((unhide K1).syn)
          have RM := hide fun hc => (unhide K1).room (x := ⟨kind, dir, toDir, p, name, tu, text⟩) hc
          have R6W7 : W7.heap[g6]? = some (.cells cs 34) := by rw [o7 g6 (Array.getElem?_eq_some_iff.1 R6W6).1 (unhide H6).1 (unhide H6).2.1 (unhide H6).2.2]; exact R6W6
          have R7W7 : W7.heap[g7]? = some (.cells #[.int .i64 kind, .int .i64 dir, .int .i64 toDir, .int .i64 p, .string name, .string tu, .string text] 37) := by rw [o7 g7 (Array.getElem?_eq_some_iff.1 R7W6).1 (unhide G7).1 (unhide G7).2.1 (unhide G7).2.2]; exact R7W6
          clear h7 o7 s7 f7 m7 HW6 R6W6 R7W6 p6 l6 l7
          generalize (Img.syn m 8 k).2 = k7 at H7 K7 RM
          have D2 := hide ((unhide H7).fo.step (unhide K7).good (by have := (unhide K7).few; omega) ⟨kind, dir, toDir, p, name, tu, text⟩ (unhide HXO).1 (unhide HXO).2.1 (unhide HXO).2.2)
          have q0 : W7.cell? ⟨g7, 0, none⟩ = some (.int .i64 kind) := by rw [cell_of_row _ _ 0 _ _ _ R7W7]; rfl
          have q1 : W7.cell? ⟨g7, 1, none⟩ = some (.int .i64 dir) := by rw [cell_of_row _ _ 1 _ _ _ R7W7]; rfl
          have q2 : W7.cell? ⟨g7, 2, none⟩ = some (.int .i64 toDir) := by rw [cell_of_row _ _ 2 _ _ _ R7W7]; rfl
          have q3 : W7.cell? ⟨g7, 3, none⟩ = some (.int .i64 p) := by rw [cell_of_row _ _ 3 _ _ _ R7W7]; rfl
          have q4 : W7.cell? ⟨g7, 4, none⟩ = some (.string name) := by rw [cell_of_row _ _ 4 _ _ _ R7W7]; rfl
          have q5 : W7.cell? ⟨g7, 5, none⟩ = some (.string tu) := by rw [cell_of_row _ _ 5 _ _ _ R7W7]; rfl
          have q6 : W7.cell? ⟨g7, 6, none⟩ = some (.string text) := by rw [cell_of_row _ _ 6 _ _ _ R7W7]; rfl
          by_cases hd : Img.scode m k7 ⟨kind, dir, toDir, p, name, tu, text⟩ = 6
          · have hd0 : Img.scode m k7 ⟨kind, dir, toDir, p, name, tu, text⟩ ≠ 0 := by omega
            rw [Img.sstep_code hd0, Img.slast_code hd0, hd] at D2
            have RF := unhide RM hd
            clear hd hd0 RM
            have RF := hide RF
            simp only [stpA] at D2
            go_wp2_with fail
            refine (unhide D2).mono ?_
            rintro e W8 ⟨rfl, f8, c8⟩
            obtain ⟨h8, o8, s8⟩ := (unhide H7).chg f8 c8
            have H8 := hide h8
            have R6W8 : W8.heap[g6]? = some (.cells cs 34) := by rw [o8 g6 (Array.getElem?_eq_some_iff.1 R6W7).1 (unhide H6).1 (unhide H6).2.1 (unhide H6).2.2]; exact R6W7
            have R7W8 : W8.heap[g7]? = some (.cells #[.int .i64 kind, .int .i64 dir, .int .i64 toDir, .int .i64 p, .string name, .string tu, .string text] 37) := by rw [o8 g7 (Array.getElem?_eq_some_iff.1 R7W7).1 (unhide G7).1 (unhide G7).2.1 (unhide G7).2.2]; exact R7W7
            clear h8 o8 s8 f8 c8 D2 H7 q0 q1 q2 q3 q4 q5 q6 R6W7 R7W7
            obtain ⟨es, fs, f⟩ := (unhide H8).fo.it
            have ze := f.now.size
            have hlf : 0 + 94 ≤ (es ++ fs).size := by simp [ze]
            have SD := hide (show (fun W => W.cell? ⟨bf, 0, none⟩ = some (.pointer (some ⟨bc, 0, none⟩)) ∧ W.heap[bc]? = some (.cells (es ++ fs) 57) ∧ W.heap[g6]? = some (.cells cs 34) ∧ W.heap[g7]? = some (.cells #[.int .i64 kind, .int .i64 dir, .int .i64 toDir, .int .i64 p, .string name, .string tu, .string text] 37)) W8.drew from ⟨f.ptr, f.row, R6W8, R7W8⟩)
            have BD := hide ((Below.refl W8.heap.size W8).drew)
            have EX := hide (show ∀ W, Below W8.heap.size W8 W → Calls Tryz.prog 36 #[.pointer (some ⟨bc, 0, none⟩), .agg (stpA ⟨kind, dir, toDir, p, name, tu, text⟩)] W fun e w' => e = .returned (.bool false) ∧ Below W.heap.size W w' from fun W b => by have := roomy_any bc m ⟨kind, dir, toDir, p, name, tu, text⟩ W (((unhide H8).call b).fo.cells.2.2.2.1); rwa [unhide RF] at this)
            have SK := hide (show ∀ W, Below W8.heap.size W8 W → (fun W => W.cell? ⟨bf, 0, none⟩ = some (.pointer (some ⟨bc, 0, none⟩)) ∧ W.heap[bc]? = some (.cells (es ++ fs) 57) ∧ W.heap[g6]? = some (.cells cs 34) ∧ W.heap[g7]? = some (.cells #[.int .i64 kind, .int .i64 dir, .int .i64 toDir, .int .i64 p, .string name, .string tu, .string text] 37)) W from fun W b => ⟨(f.below b).ptr, (f.below b).row, by rw [b.block _ (Array.getElem?_eq_some_iff.1 R6W8).1]; exact R6W8, by rw [b.block _ (Array.getElem?_eq_some_iff.1 R7W8).1]; exact R7W8⟩)
            clear f R6W8 R7W8
            simp only [stpA] at EX
            go_wp2_with fail
            refine wp_region_held_drew (S := fun W => W.cell? ⟨bf, 0, none⟩ = some (.pointer (some ⟨bc, 0, none⟩)) ∧ W.heap[bc]? = some (.cells (es ++ fs) 57) ∧ W.heap[g6]? = some (.cells cs 34) ∧ W.heap[g7]? = some (.cells #[.int .i64 kind, .int .i64 dir, .int .i64 toDir, .int .i64 p, .string name, .string tu, .string text] 37)) (by kernel_rfl) (unhide SD) (fun hS => ?_)
            refine wpAnyH_take (i := 0) (oi := { dst := some 95, op := Op.move (Operand.tmp 9), type := 3, pos := "law05.go:166", after := #[], guard := none }) (v := .int .i64 6) rfl (by kernel_rfl) (by kernel_rfl) (by kernel_rfl) (fun _ _ _ h => h) (Or.inl ⟨by kernel_rfl, fun W h => (by first | kernel_rfl | go_simp)⟩) hS ?_
            try simp only [Act.put, List.setIfInBounds_toArray, List.set_cons_zero, List.set_cons_succ]
            refine wpAnyH_take (i := 1) (oi := { dst := some 96, op := Op.binOp BinOp.eql 3 (Operand.tmp 95) (Operand.const (Value.int IntKind.i64 6)) 3, type := 4, pos := "law05.go:166", after := #[{ on := 0, ground := Ground.data }], guard := none }) (v := .bool true) rfl (by kernel_rfl) (by kernel_rfl) (by kernel_rfl) (fun _ _ _ h => h) (Or.inl ⟨by kernel_rfl, fun W h => (by first | kernel_rfl | go_simp)⟩) hS ?_
            try simp only [Act.put, List.setIfInBounds_toArray, List.set_cons_zero, List.set_cons_succ]
            refine wpAnyH_take (i := 2) (oi := { dst := some 97, op := Op.move (Operand.tmp 96), type := 4, pos := "law05.go:166", after := #[{ on := 1, ground := Ground.data }], guard := none }) (v := .bool true) rfl (by kernel_rfl) (by kernel_rfl) (by kernel_rfl) (fun _ _ _ h => h) (Or.inl ⟨by kernel_rfl, fun W h => (by first | kernel_rfl | go_simp)⟩) hS ?_
            try simp only [Act.put, List.setIfInBounds_toArray, List.set_cons_zero, List.set_cons_succ]
            refine wpAnyH_take (i := 3) (oi := { dst := some 98, op := Op.move (Operand.tmp 3), type := 42, pos := "law05.go:166", after := #[{ on := 2, ground := Ground.guard }], guard := some (2, true) }) (v := .pointer (some ⟨bf, 0, none⟩)) rfl (by kernel_rfl) (by kernel_rfl) (by kernel_rfl) (fun _ _ _ h => h) (Or.inl ⟨by kernel_rfl, fun W h => (by first | kernel_rfl | go_simp)⟩) hS ?_
            try simp only [Act.put, List.setIfInBounds_toArray, List.set_cons_zero, List.set_cons_succ]
            refine wpAnyH_take (i := 4) (oi := { dst := some 99, op := Op.nilCheck (Operand.tmp 98), type := 0, pos := "law05.go:166", after := #[{ on := 3, ground := Ground.data }, { on := 2, ground := Ground.guard }], guard := some (2, true) }) (v := .pointer (some ⟨bf, 0, none⟩)) rfl (by kernel_rfl) (by kernel_rfl) (by kernel_rfl) (fun _ _ _ h => h) (Or.inl ⟨by kernel_rfl, fun W h => (by first | kernel_rfl | go_simp)⟩) hS ?_
            try simp only [Act.put, List.setIfInBounds_toArray, List.set_cons_zero, List.set_cons_succ]
            refine wpAnyH_take (i := 5) (oi := { dst := some 100, op := Op.fieldAddr 55 (Operand.tmp 99) 0, type := 0, pos := "law05.go:166", after := #[{ on := 4, ground := Ground.data }, { on := 2, ground := Ground.guard }], guard := some (2, true) }) (v := .pointer (some ⟨bf, 0, none⟩)) rfl (by kernel_rfl) (by kernel_rfl) (by kernel_rfl) (fun _ _ _ h => h) (Or.inl ⟨by kernel_rfl, fun W h => (by first | kernel_rfl | go_simp)⟩) hS ?_
            try simp only [Act.put, List.setIfInBounds_toArray, List.set_cons_zero, List.set_cons_succ]
            refine wpAnyH_take (i := 6) (oi := { dst := some 101, op := Op.load 53 (Operand.tmp 100), type := 53, pos := "law05.go:166", after := #[{ on := 5, ground := Ground.data }, { on := 2, ground := Ground.guard }], guard := some (2, true) }) (v := .pointer (some ⟨bc, 0, none⟩)) rfl (by kernel_rfl) (by kernel_rfl) (by kernel_rfl) (fun _ _ _ h => h) (Or.inl ⟨by kernel_rfl, fun W h => Op1.ld_ptr (.tmp 100) (by kernel_rfl) (by kernel_rfl) W (h.1)⟩) hS ?_
            try simp only [Act.put, List.setIfInBounds_toArray, List.set_cons_zero, List.set_cons_succ]
            refine wpAnyH_take (i := 7) (oi := { dst := some 102, op := Op.nilCheck (Operand.tmp 101), type := 0, pos := "law05.go:166", after := #[{ on := 6, ground := Ground.data }, { on := 2, ground := Ground.guard }], guard := some (2, true) }) (v := .pointer (some ⟨bc, 0, none⟩)) rfl (by kernel_rfl) (by kernel_rfl) (by kernel_rfl) (fun _ _ _ h => h) (Or.inl ⟨by kernel_rfl, fun W h => (by first | kernel_rfl | go_simp)⟩) hS ?_
            try simp only [Act.put, List.setIfInBounds_toArray, List.set_cons_zero, List.set_cons_succ]
            refine wpAnyH_take (i := 8) (oi := { dst := some 103, op := Op.fieldAddr 57 (Operand.tmp 102) 0, type := 0, pos := "law05.go:166", after := #[{ on := 7, ground := Ground.data }, { on := 2, ground := Ground.guard }], guard := some (2, true) }) (v := .pointer (some ⟨bc, 0, none⟩)) rfl (by kernel_rfl) (by kernel_rfl) (by kernel_rfl) (fun _ _ _ h => h) (Or.inl ⟨by kernel_rfl, fun W h => (by first | kernel_rfl | go_simp)⟩) hS ?_
            try simp only [Act.put, List.setIfInBounds_toArray, List.set_cons_zero, List.set_cons_succ]
            refine wpAnyH_take (i := 9) (oi := { dst := some 104, op := Op.load 37 (Operand.tmp 7), type := 37, pos := "law05.go:166", after := #[{ on := 2, ground := Ground.guard }], guard := some (2, true) }) (v := .agg #[.int .i64 kind, .int .i64 dir, .int .i64 toDir, .int .i64 p, .string name, .string tu, .string text]) rfl (by kernel_rfl) (by kernel_rfl) (by kernel_rfl) (fun _ _ _ h => h) (Or.inl ⟨by kernel_rfl, fun W h => run_exec_load_part 37 (.tmp 7) (by kernel_rfl) g7 0 7 (by kernel_rfl) W 37 #[.int .i64 kind, .int .i64 dir, .int .i64 toDir, .int .i64 p, .string name, .string tu, .string text] #[.int .i64 kind, .int .i64 dir, .int .i64 toDir, .int .i64 p, .string name, .string tu, .string text] _ (h.2.2.2) step_under rfl (step_info ⟨kind, dir, toDir, p, name, tu, text⟩) (by simp) (by rfl)⟩) hS ?_
            try simp only [Act.put, List.setIfInBounds_toArray, List.set_cons_zero, List.set_cons_succ]
            refine wpAnyH_ready (rs := [10]) (by kernel_rfl) (by simp) ?_
            refine AllReadyH.cons (o := { dst := some 105, op := Op.call { callee := Callee.value (Operand.func 36), args := #[Operand.tmp 103, Operand.tmp 104], argTypes := #[50, 37] }, type := 4, pos := "law05.go:166", after := #[{ on := 8, ground := Ground.data }, { on := 9, ground := Ground.data }, { on := 2, ground := Ground.chain }, { on := 2, ground := Ground.guard }], guard := some (2, true) }) rfl (fun K hK => ?_) AllReadyH.nil
            rw [if_pos (by kernel_rfl)]
            go_simp
            refine (unhide EX _ (unhide BD)).mono ?_
            rintro e W9 ⟨rfl, b9⟩
            have B9 := hide ((unhide BD).trans (b9.mono (unhide BD).size))
            have S9 := hide (unhide SK W9 (unhide B9))
            clear b9
            go_wp2_with fail
            refine hK.out _ _ (unhide S9) (fun hS9 => ?_)
            clear hK K
            try simp only [Act.put, List.setIfInBounds_toArray, List.set_cons_zero, List.set_cons_succ]
            refine wpAnyH_take (i := 11) (oi := { dst := some 106, op := Op.pick (Operand.tmp 97) (Operand.tmp 105) (Operand.const (Value.bool false)), type := 4, pos := "law05.go:166", after := #[{ on := 2, ground := Ground.data }, { on := 10, ground := Ground.data }], guard := none }) (v := .bool false) rfl (by kernel_rfl) (by kernel_rfl) (by kernel_rfl) (fun _ _ _ h => h) (Or.inl ⟨by kernel_rfl, fun W h => (by first | kernel_rfl | go_simp)⟩) hS9 ?_
            try simp only [Act.put, List.setIfInBounds_toArray, List.set_cons_zero, List.set_cons_succ]
            refine wpAnyH_done (by kernel_rfl) ?_ _
            go_wp2_with fail
            go_roundw
            case rel => exact ⟨j + 1, m, k7, last, by omega, by go_num, hide ((unhide H8).call (unhide B9)), hide ((unhide K7).mono (by omega))⟩
            case measure => simp [intOf]; omega
          · have hd6 : (Img.scode m k7 ⟨kind, dir, toDir, p, name, tu, text⟩ == 6) = false := by simpa using hd
            have K8 := hide ((unhide K7).step ⟨kind, dir, toDir, p, name, tu, text⟩)
            clear hd RM
            generalize Img.scode m k7 ⟨kind, dir, toDir, p, name, tu, text⟩ = cd2 at D2 hd6
            generalize Img.sstep m k7 last ⟨kind, dir, toDir, p, name, tu, text⟩ = m8 at D2 K8
            generalize Img.slast m k7 last ⟨kind, dir, toDir, p, name, tu, text⟩ = la8 at D2 K8
            have CN2 := hide hd6
            clear hd6
            simp only [stpA] at D2
            go_wp2_with fail
            refine (unhide D2).mono ?_
            rintro e W8 ⟨rfl, f8, c8⟩
            obtain ⟨h8, o8, s8⟩ := (unhide H7).chg f8 c8
            have H8 := hide h8
            have R6W8 : W8.heap[g6]? = some (.cells cs 34) := by rw [o8 g6 (Array.getElem?_eq_some_iff.1 R6W7).1 (unhide H6).1 (unhide H6).2.1 (unhide H6).2.2]; exact R6W7
            have R7W8 : W8.heap[g7]? = some (.cells #[.int .i64 kind, .int .i64 dir, .int .i64 toDir, .int .i64 p, .string name, .string tu, .string text] 37) := by rw [o8 g7 (Array.getElem?_eq_some_iff.1 R7W7).1 (unhide G7).1 (unhide G7).2.1 (unhide G7).2.2]; exact R7W7
            clear h8 o8 s8 f8 c8 D2 H7 q0 q1 q2 q3 q4 q5 q6 R6W7 R7W7
            obtain ⟨es, fs, f⟩ := (unhide H8).fo.it
            have ze := f.now.size
            have hlf : 0 + 94 ≤ (es ++ fs).size := by simp [ze]
            have SD := hide (show (fun W => W.cell? ⟨bf, 0, none⟩ = some (.pointer (some ⟨bc, 0, none⟩)) ∧ W.heap[bc]? = some (.cells (es ++ fs) 57) ∧ W.heap[g6]? = some (.cells cs 34) ∧ W.heap[g7]? = some (.cells #[.int .i64 kind, .int .i64 dir, .int .i64 toDir, .int .i64 p, .string name, .string tu, .string text] 37)) W8.drew from ⟨f.ptr, f.row, R6W8, R7W8⟩)
            clear f R6W8 R7W8
            go_wp2_with fail
            refine wp_region_held_drew (S := fun W => W.cell? ⟨bf, 0, none⟩ = some (.pointer (some ⟨bc, 0, none⟩)) ∧ W.heap[bc]? = some (.cells (es ++ fs) 57) ∧ W.heap[g6]? = some (.cells cs 34) ∧ W.heap[g7]? = some (.cells #[.int .i64 kind, .int .i64 dir, .int .i64 toDir, .int .i64 p, .string name, .string tu, .string text] 37)) (by kernel_rfl) (unhide SD) (fun hS => ?_)
            refine wpAnyH_take (i := 0) (oi := { dst := some 95, op := Op.move (Operand.tmp 9), type := 3, pos := "law05.go:166", after := #[], guard := none }) (v := .int .i64 cd2) rfl (by kernel_rfl) (by kernel_rfl) (by kernel_rfl) (fun _ _ _ h => h) (Or.inl ⟨by kernel_rfl, fun W h => (by first | kernel_rfl | go_simp)⟩) hS ?_
            try simp only [Act.put, List.setIfInBounds_toArray, List.set_cons_zero, List.set_cons_succ]
            refine wpAnyH_take (i := 1) (oi := { dst := some 96, op := Op.binOp BinOp.eql 3 (Operand.tmp 95) (Operand.const (Value.int IntKind.i64 6)) 3, type := 4, pos := "law05.go:166", after := #[{ on := 0, ground := Ground.data }], guard := none }) (v := .bool false) rfl (by kernel_rfl) (by kernel_rfl) (by kernel_rfl) (fun _ _ _ h => h) (Or.inl ⟨by kernel_rfl, fun W h => Op1.eql6 (.tmp 95) (by kernel_rfl) (by kernel_rfl) (by kernel_rfl) (unhide CN2) W⟩) hS ?_
            try simp only [Act.put, List.setIfInBounds_toArray, List.set_cons_zero, List.set_cons_succ]
            refine wpAnyH_take (i := 2) (oi := { dst := some 97, op := Op.move (Operand.tmp 96), type := 4, pos := "law05.go:166", after := #[{ on := 1, ground := Ground.data }], guard := none }) (v := .bool false) rfl (by kernel_rfl) (by kernel_rfl) (by kernel_rfl) (fun _ _ _ h => h) (Or.inl ⟨by kernel_rfl, fun W h => (by first | kernel_rfl | go_simp)⟩) hS ?_
            try simp only [Act.put, List.setIfInBounds_toArray, List.set_cons_zero, List.set_cons_succ]
            refine wpAnyH_take (i := 3) (oi := { dst := some 98, op := Op.move (Operand.tmp 3), type := 42, pos := "law05.go:166", after := #[{ on := 2, ground := Ground.guard }], guard := some (2, true) }) (v := undef) rfl (by kernel_rfl) (by kernel_rfl) (by kernel_rfl) (fun _ _ _ h => h) (Or.inr ⟨by kernel_rfl, rfl⟩) hS ?_
            try simp only [Act.put, List.setIfInBounds_toArray, List.set_cons_zero, List.set_cons_succ]
            refine wpAnyH_take (i := 4) (oi := { dst := some 99, op := Op.nilCheck (Operand.tmp 98), type := 0, pos := "law05.go:166", after := #[{ on := 3, ground := Ground.data }, { on := 2, ground := Ground.guard }], guard := some (2, true) }) (v := undef) rfl (by kernel_rfl) (by kernel_rfl) (by kernel_rfl) (fun _ _ _ h => h) (Or.inr ⟨by kernel_rfl, rfl⟩) hS ?_
            try simp only [Act.put, List.setIfInBounds_toArray, List.set_cons_zero, List.set_cons_succ]
            refine wpAnyH_take (i := 5) (oi := { dst := some 100, op := Op.fieldAddr 55 (Operand.tmp 99) 0, type := 0, pos := "law05.go:166", after := #[{ on := 4, ground := Ground.data }, { on := 2, ground := Ground.guard }], guard := some (2, true) }) (v := undef) rfl (by kernel_rfl) (by kernel_rfl) (by kernel_rfl) (fun _ _ _ h => h) (Or.inr ⟨by kernel_rfl, rfl⟩) hS ?_
            try simp only [Act.put, List.setIfInBounds_toArray, List.set_cons_zero, List.set_cons_succ]
            refine wpAnyH_take (i := 6) (oi := { dst := some 101, op := Op.load 53 (Operand.tmp 100), type := 53, pos := "law05.go:166", after := #[{ on := 5, ground := Ground.data }, { on := 2, ground := Ground.guard }], guard := some (2, true) }) (v := undef) rfl (by kernel_rfl) (by kernel_rfl) (by kernel_rfl) (fun _ _ _ h => h) (Or.inr ⟨by kernel_rfl, rfl⟩) hS ?_
            try simp only [Act.put, List.setIfInBounds_toArray, List.set_cons_zero, List.set_cons_succ]
            refine wpAnyH_take (i := 7) (oi := { dst := some 102, op := Op.nilCheck (Operand.tmp 101), type := 0, pos := "law05.go:166", after := #[{ on := 6, ground := Ground.data }, { on := 2, ground := Ground.guard }], guard := some (2, true) }) (v := undef) rfl (by kernel_rfl) (by kernel_rfl) (by kernel_rfl) (fun _ _ _ h => h) (Or.inr ⟨by kernel_rfl, rfl⟩) hS ?_
            try simp only [Act.put, List.setIfInBounds_toArray, List.set_cons_zero, List.set_cons_succ]
            refine wpAnyH_take (i := 8) (oi := { dst := some 103, op := Op.fieldAddr 57 (Operand.tmp 102) 0, type := 0, pos := "law05.go:166", after := #[{ on := 7, ground := Ground.data }, { on := 2, ground := Ground.guard }], guard := some (2, true) }) (v := undef) rfl (by kernel_rfl) (by kernel_rfl) (by kernel_rfl) (fun _ _ _ h => h) (Or.inr ⟨by kernel_rfl, rfl⟩) hS ?_
            try simp only [Act.put, List.setIfInBounds_toArray, List.set_cons_zero, List.set_cons_succ]
            refine wpAnyH_take (i := 9) (oi := { dst := some 104, op := Op.load 37 (Operand.tmp 7), type := 37, pos := "law05.go:166", after := #[{ on := 2, ground := Ground.guard }], guard := some (2, true) }) (v := undef) rfl (by kernel_rfl) (by kernel_rfl) (by kernel_rfl) (fun _ _ _ h => h) (Or.inr ⟨by kernel_rfl, rfl⟩) hS ?_
            try simp only [Act.put, List.setIfInBounds_toArray, List.set_cons_zero, List.set_cons_succ]
            refine wpAnyH_take (i := 10) (oi := { dst := some 105, op := Op.call { callee := Callee.value (Operand.func 36), args := #[Operand.tmp 103, Operand.tmp 104], argTypes := #[50, 37] }, type := 4, pos := "law05.go:166", after := #[{ on := 8, ground := Ground.data }, { on := 9, ground := Ground.data }, { on := 2, ground := Ground.chain }, { on := 2, ground := Ground.guard }], guard := some (2, true) }) (v := undef) rfl (by kernel_rfl) (by kernel_rfl) (by kernel_rfl) (fun _ _ _ h => h) (Or.inr ⟨by kernel_rfl, rfl⟩) hS ?_
            try simp only [Act.put, List.setIfInBounds_toArray, List.set_cons_zero, List.set_cons_succ]
            refine wpAnyH_take (i := 11) (oi := { dst := some 106, op := Op.pick (Operand.tmp 97) (Operand.tmp 105) (Operand.const (Value.bool false)), type := 4, pos := "law05.go:166", after := #[{ on := 2, ground := Ground.data }, { on := 10, ground := Ground.data }], guard := none }) (v := .bool false) rfl (by kernel_rfl) (by kernel_rfl) (by kernel_rfl) (fun _ _ _ h => h) (Or.inl ⟨by kernel_rfl, fun W h => (by first | kernel_rfl | go_simp)⟩) hS ?_
            try simp only [Act.put, List.setIfInBounds_toArray, List.set_cons_zero, List.set_cons_succ]
            refine wpAnyH_done (by kernel_rfl) ?_ _
            go_wp2_with fail
            go_roundw
            case rel => exact ⟨j + 1, m8, k7, la8, by omega, by go_num, hide ((unhide H8).call ((Below.refl _ _).drew)), hide ((unhide K8).mono (by omega))⟩
            case measure => simp [intOf]; omega
        · have D1 := hide ((unhide HB).fo.step (unhide HK).good (by have := (unhide HK).few; omega) ⟨kind, dir, toDir, p, name, tu, text⟩ (unhide HXO).1 (unhide HXO).2.1 (unhide HXO).2.2)
          have K1 := hide ((unhide HK).step ⟨kind, dir, toDir, p, name, tu, text⟩)
          rw [Img.sstep_code hn0, Img.slast_code hn0] at D1 K1
          have c6' : (Img.scode m k ⟨kind, dir, toDir, p, name, tu, text⟩ != 6) = true := by simpa using hc
          have CN := hide (show (Img.scode m k ⟨kind, dir, toDir, p, name, tu, text⟩ != 0) = true by simpa using hn0)
          generalize Img.scode m k ⟨kind, dir, toDir, p, name, tu, text⟩ = cd at D1 c6' CN hc
          clear hc hn0
          simp only [stpA] at D1
          go_simp
          go_wp2_with (have hx := unhide s2; refine wpList_store_row rfl 37 _ _ rfl A2.heap.size _ rfl rfl 37 _ hx (step_info ⟨kind, dir, toDir, p, name, tu, text⟩) rfl (step_all ⟨kind, dir, toDir, p, name, tu, text⟩) ?_; clear hx s2)
          generalize (A2.alloc (.cells #[.int .i64 0, .int .i64 0, .int .i64 0, .int .i64 0, .string ⟨#[]⟩, .string ⟨#[]⟩, .string ⟨#[]⟩] 37)).setRow A2.heap.size #[.int .i64 kind, .int .i64 dir, .int .i64 toDir, .int .i64 p, .string name, .string tu, .string text] = B at *
          generalize A2.heap.size = g7 at *
          generalize wr.heap.size = g6 at *
          clear c0 c1 c2 c3 c4 c5 c6
          have R6B := unhide RW
          have R7B := unhide RB
          refine (unhide D1).mono ?_
          rintro e W5 ⟨rfl, f5, c5⟩
          obtain ⟨h5, o5, s5⟩ := (unhide HB).chg f5 c5
          have H5 := hide h5
          have R6W5 : W5.heap[g6]? = some (.cells cs 34) := by rw [o5 g6 (Array.getElem?_eq_some_iff.1 R6B).1 (unhide H6).1 (unhide H6).2.1 (unhide H6).2.2]; exact R6B
          have R7W5 : W5.heap[g7]? = some (.cells #[.int .i64 kind, .int .i64 dir, .int .i64 toDir, .int .i64 p, .string name, .string tu, .string text] 37) := by rw [o5 g7 (Array.getElem?_eq_some_iff.1 R7B).1 (unhide G7).1 (unhide G7).2.1 (unhide G7).2.2]; exact R7B
          clear h5 o5 s5 f5 c5 D1 HB q0 q1 q2 q3 q4 q5 q6 RW RB R6B R7B HF
          obtain ⟨es, fs, f⟩ := (unhide H5).fo.it
          have ze := f.now.size
          have hlf : 0 + 94 ≤ (es ++ fs).size := by simp [ze]
          have SD := hide (show (fun W => W.cell? ⟨bf, 0, none⟩ = some (.pointer (some ⟨bc, 0, none⟩)) ∧ W.heap[bc]? = some (.cells (es ++ fs) 57) ∧ W.heap[g6]? = some (.cells cs 34) ∧ W.heap[g7]? = some (.cells #[.int .i64 kind, .int .i64 dir, .int .i64 toDir, .int .i64 p, .string name, .string tu, .string text] 37)) W5.drew from ⟨f.ptr, f.row, R6W5, R7W5⟩)
          have QN := hide (show ∀ w, (binOp .neq 34 (.agg es) (.agg cs)).run Tryz.prog w = .ok (.bool false) w from fun w => by have := neqlImg f.now hi w; rwa [same_self] at this)
          have BD := hide ((Below.refl W5.heap.size W5).drew)
          have EX := hide (show ∀ W, Below W5.heap.size W5 W → Calls Tryz.prog 35 #[.pointer (some ⟨bc, 0, none⟩)] W fun e w' => e = .returned (.bool true) ∧ Below W.heap.size W w' from fun W b => by have := exact_any bc m W (HasAt.img (((unhide H5).call b).fo.cells.2.2.2.1)); rwa [(unhide K1).exact] at this)
          have SK := hide (show ∀ W, Below W5.heap.size W5 W → (fun W => W.cell? ⟨bf, 0, none⟩ = some (.pointer (some ⟨bc, 0, none⟩)) ∧ W.heap[bc]? = some (.cells (es ++ fs) 57) ∧ W.heap[g6]? = some (.cells cs 34) ∧ W.heap[g7]? = some (.cells #[.int .i64 kind, .int .i64 dir, .int .i64 toDir, .int .i64 p, .string name, .string tu, .string text] 37)) W from fun W b => ⟨(f.below b).ptr, (f.below b).row, by rw [b.block _ (Array.getElem?_eq_some_iff.1 R6W5).1]; exact R6W5, by rw [b.block _ (Array.getElem?_eq_some_iff.1 R7W5).1]; exact R7W5⟩)
          clear f R6W5 R7W5
          go_wp2_with fail
          refine wp_region_held_drew (S := fun W => W.cell? ⟨bf, 0, none⟩ = some (.pointer (some ⟨bc, 0, none⟩)) ∧ W.heap[bc]? = some (.cells (es ++ fs) 57) ∧ W.heap[g6]? = some (.cells cs 34) ∧ W.heap[g7]? = some (.cells #[.int .i64 kind, .int .i64 dir, .int .i64 toDir, .int .i64 p, .string name, .string tu, .string text] 37)) (by kernel_rfl) (unhide SD) (fun hS => ?_)
          refine wpAnyH_take (i := 0) (oi := { dst := some 62, op := Op.move (Operand.tmp 3), type := 42, pos := "law05.go:157", after := #[], guard := none }) (v := .pointer (some ⟨bf, 0, none⟩)) rfl (by kernel_rfl) (by kernel_rfl) (by kernel_rfl) (fun _ _ _ h => h) (Or.inl ⟨by kernel_rfl, fun W h => (by first | kernel_rfl | go_simp)⟩) hS ?_
          try simp only [Act.put, List.setIfInBounds_toArray, List.set_cons_zero, List.set_cons_succ]
          refine wpAnyH_take (i := 1) (oi := { dst := some 63, op := Op.nilCheck (Operand.tmp 62), type := 0, pos := "law05.go:157", after := #[{ on := 0, ground := Ground.data }], guard := none }) (v := .pointer (some ⟨bf, 0, none⟩)) rfl (by kernel_rfl) (by kernel_rfl) (by kernel_rfl) (fun _ _ _ h => h) (Or.inl ⟨by kernel_rfl, fun W h => (by first | kernel_rfl | go_simp)⟩) hS ?_
          try simp only [Act.put, List.setIfInBounds_toArray, List.set_cons_zero, List.set_cons_succ]
          refine wpAnyH_take (i := 2) (oi := { dst := some 64, op := Op.fieldAddr 55 (Operand.tmp 63) 0, type := 0, pos := "law05.go:157", after := #[{ on := 1, ground := Ground.data }], guard := none }) (v := .pointer (some ⟨bf, 0, none⟩)) rfl (by kernel_rfl) (by kernel_rfl) (by kernel_rfl) (fun _ _ _ h => h) (Or.inl ⟨by kernel_rfl, fun W h => (by first | kernel_rfl | go_simp)⟩) hS ?_
          try simp only [Act.put, List.setIfInBounds_toArray, List.set_cons_zero, List.set_cons_succ]
          refine wpAnyH_take (i := 3) (oi := { dst := some 65, op := Op.load 53 (Operand.tmp 64), type := 53, pos := "law05.go:157", after := #[{ on := 2, ground := Ground.data }], guard := none }) (v := .pointer (some ⟨bc, 0, none⟩)) rfl (by kernel_rfl) (by kernel_rfl) (by kernel_rfl) (fun _ _ _ h => h) (Or.inl ⟨by kernel_rfl, fun W h => Op1.ld_ptr (.tmp 64) (by kernel_rfl) (by kernel_rfl) W (h.1)⟩) hS ?_
          try simp only [Act.put, List.setIfInBounds_toArray, List.set_cons_zero, List.set_cons_succ]
          refine wpAnyH_take (i := 4) (oi := { dst := some 66, op := Op.nilCheck (Operand.tmp 65), type := 0, pos := "law05.go:157", after := #[{ on := 3, ground := Ground.data }], guard := none }) (v := .pointer (some ⟨bc, 0, none⟩)) rfl (by kernel_rfl) (by kernel_rfl) (by kernel_rfl) (fun _ _ _ h => h) (Or.inl ⟨by kernel_rfl, fun W h => (by first | kernel_rfl | go_simp)⟩) hS ?_
          try simp only [Act.put, List.setIfInBounds_toArray, List.set_cons_zero, List.set_cons_succ]
          refine wpAnyH_take (i := 5) (oi := { dst := some 67, op := Op.fieldAddr 57 (Operand.tmp 66) 0, type := 0, pos := "law05.go:157", after := #[{ on := 4, ground := Ground.data }], guard := none }) (v := .pointer (some ⟨bc, 0, none⟩)) rfl (by kernel_rfl) (by kernel_rfl) (by kernel_rfl) (fun _ _ _ h => h) (Or.inl ⟨by kernel_rfl, fun W h => (by first | kernel_rfl | go_simp)⟩) hS ?_
          try simp only [Act.put, List.setIfInBounds_toArray, List.set_cons_zero, List.set_cons_succ]
          refine wpAnyH_ready (rs := [6]) (by kernel_rfl) (by simp) ?_
          refine AllReadyH.cons (o := { dst := some 68, op := Op.call { callee := Callee.value (Operand.func 35), args := #[Operand.tmp 67], argTypes := #[50] }, type := 4, pos := "law05.go:157", after := #[{ on := 5, ground := Ground.data }], guard := none }) rfl (fun K hK => ?_) AllReadyH.nil
          rw [if_pos (by kernel_rfl)]
          go_simp
          refine (unhide EX _ (unhide BD)).mono ?_
          rintro e W6 ⟨rfl, b6⟩
          have B6 := hide ((unhide BD).trans (b6.mono (unhide BD).size))
          have S6 := hide (unhide SK W6 (unhide B6))
          clear b6
          go_wp2_with fail
          refine hK.out _ _ (unhide S6) (fun hS6 => ?_)
          clear hK K
          try simp only [Act.put, List.setIfInBounds_toArray, List.set_cons_zero, List.set_cons_succ]
          refine wpAnyH_take (i := 7) (oi := { dst := some 69, op := Op.unOp UnOp.not 4 (Operand.tmp 68), type := 4, pos := "law05.go:157", after := #[{ on := 6, ground := Ground.data }], guard := none }) (v := .bool false) rfl (by kernel_rfl) (by kernel_rfl) (by kernel_rfl) (fun _ _ _ h => h) (Or.inl ⟨by kernel_rfl, fun W h => (by first | kernel_rfl | go_simp)⟩) hS6 ?_
          try simp only [Act.put, List.setIfInBounds_toArray, List.set_cons_zero, List.set_cons_succ]
          refine wpAnyH_take (i := 8) (oi := { dst := some 70, op := Op.move (Operand.tmp 69), type := 4, pos := "law05.go:157", after := #[{ on := 7, ground := Ground.data }, { on := 6, ground := Ground.chain }], guard := none }) (v := .bool false) rfl (by kernel_rfl) (by kernel_rfl) (by kernel_rfl) (fun _ _ _ h => h) (Or.inl ⟨by kernel_rfl, fun W h => (by first | kernel_rfl | go_simp)⟩) hS6 ?_
          try simp only [Act.put, List.setIfInBounds_toArray, List.set_cons_zero, List.set_cons_succ]
          refine wpAnyH_take (i := 9) (oi := { dst := some 71, op := Op.move (Operand.tmp 8), type := 3, pos := "law05.go:157", after := #[{ on := 8, ground := Ground.guard }], guard := some (8, false) }) (v := .int .i64 cd) rfl (by kernel_rfl) (by kernel_rfl) (by kernel_rfl) (fun _ _ _ h => h) (Or.inl ⟨by kernel_rfl, fun W h => (by first | kernel_rfl | go_simp)⟩) hS6 ?_
          try simp only [Act.put, List.setIfInBounds_toArray, List.set_cons_zero, List.set_cons_succ]
          refine wpAnyH_take (i := 10) (oi := { dst := some 72, op := Op.binOp BinOp.neq 3 (Operand.tmp 71) (Operand.const (Value.int IntKind.i64 0)) 3, type := 4, pos := "law05.go:157", after := #[{ on := 9, ground := Ground.data }, { on := 8, ground := Ground.guard }], guard := some (8, false) }) (v := .bool true) rfl (by kernel_rfl) (by kernel_rfl) (by kernel_rfl) (fun _ _ _ h => h) (Or.inl ⟨by kernel_rfl, fun W h => Op1.neq0 (.tmp 71) (by kernel_rfl) (by kernel_rfl) (by kernel_rfl) (unhide CN) W⟩) hS6 ?_
          try simp only [Act.put, List.setIfInBounds_toArray, List.set_cons_zero, List.set_cons_succ]
          refine wpAnyH_take (i := 11) (oi := { dst := some 73, op := Op.move (Operand.tmp 72), type := 4, pos := "law05.go:157", after := #[{ on := 10, ground := Ground.data }, { on := 8, ground := Ground.chain }, { on := 8, ground := Ground.guard }], guard := some (8, false) }) (v := .bool true) rfl (by kernel_rfl) (by kernel_rfl) (by kernel_rfl) (fun _ _ _ h => h) (Or.inl ⟨by kernel_rfl, fun W h => (by first | kernel_rfl | go_simp)⟩) hS6 ?_
          try simp only [Act.put, List.setIfInBounds_toArray, List.set_cons_zero, List.set_cons_succ]
          refine wpAnyH_take (i := 12) (oi := { dst := some 74, op := Op.move (Operand.tmp 3), type := 42, pos := "law05.go:157", after := #[{ on := 11, ground := Ground.guard }], guard := some (11, true) }) (v := .pointer (some ⟨bf, 0, none⟩)) rfl (by kernel_rfl) (by kernel_rfl) (by kernel_rfl) (fun _ _ _ h => h) (Or.inl ⟨by kernel_rfl, fun W h => (by first | kernel_rfl | go_simp)⟩) hS6 ?_
          try simp only [Act.put, List.setIfInBounds_toArray, List.set_cons_zero, List.set_cons_succ]
          refine wpAnyH_take (i := 13) (oi := { dst := some 75, op := Op.nilCheck (Operand.tmp 74), type := 0, pos := "law05.go:157", after := #[{ on := 12, ground := Ground.data }, { on := 11, ground := Ground.guard }], guard := some (11, true) }) (v := .pointer (some ⟨bf, 0, none⟩)) rfl (by kernel_rfl) (by kernel_rfl) (by kernel_rfl) (fun _ _ _ h => h) (Or.inl ⟨by kernel_rfl, fun W h => (by first | kernel_rfl | go_simp)⟩) hS6 ?_
          try simp only [Act.put, List.setIfInBounds_toArray, List.set_cons_zero, List.set_cons_succ]
          refine wpAnyH_take (i := 14) (oi := { dst := some 76, op := Op.fieldAddr 55 (Operand.tmp 75) 0, type := 0, pos := "law05.go:157", after := #[{ on := 13, ground := Ground.data }, { on := 11, ground := Ground.guard }], guard := some (11, true) }) (v := .pointer (some ⟨bf, 0, none⟩)) rfl (by kernel_rfl) (by kernel_rfl) (by kernel_rfl) (fun _ _ _ h => h) (Or.inl ⟨by kernel_rfl, fun W h => (by first | kernel_rfl | go_simp)⟩) hS6 ?_
          try simp only [Act.put, List.setIfInBounds_toArray, List.set_cons_zero, List.set_cons_succ]
          refine wpAnyH_take (i := 15) (oi := { dst := some 77, op := Op.load 53 (Operand.tmp 76), type := 53, pos := "law05.go:157", after := #[{ on := 14, ground := Ground.data }, { on := 11, ground := Ground.guard }], guard := some (11, true) }) (v := .pointer (some ⟨bc, 0, none⟩)) rfl (by kernel_rfl) (by kernel_rfl) (by kernel_rfl) (fun _ _ _ h => h) (Or.inl ⟨by kernel_rfl, fun W h => Op1.ld_ptr (.tmp 76) (by kernel_rfl) (by kernel_rfl) W (h.1)⟩) hS6 ?_
          try simp only [Act.put, List.setIfInBounds_toArray, List.set_cons_zero, List.set_cons_succ]
          refine wpAnyH_take (i := 16) (oi := { dst := some 78, op := Op.nilCheck (Operand.tmp 77), type := 0, pos := "law05.go:157", after := #[{ on := 15, ground := Ground.data }, { on := 11, ground := Ground.guard }], guard := some (11, true) }) (v := .pointer (some ⟨bc, 0, none⟩)) rfl (by kernel_rfl) (by kernel_rfl) (by kernel_rfl) (fun _ _ _ h => h) (Or.inl ⟨by kernel_rfl, fun W h => (by first | kernel_rfl | go_simp)⟩) hS6 ?_
          try simp only [Act.put, List.setIfInBounds_toArray, List.set_cons_zero, List.set_cons_succ]
          refine wpAnyH_take (i := 17) (oi := { dst := some 79, op := Op.fieldAddr 57 (Operand.tmp 78) 0, type := 0, pos := "law05.go:157", after := #[{ on := 16, ground := Ground.data }, { on := 11, ground := Ground.guard }], guard := some (11, true) }) (v := .pointer (some ⟨bc, 0, none⟩)) rfl (by kernel_rfl) (by kernel_rfl) (by kernel_rfl) (fun _ _ _ h => h) (Or.inl ⟨by kernel_rfl, fun W h => (by first | kernel_rfl | go_simp)⟩) hS6 ?_
          try simp only [Act.put, List.setIfInBounds_toArray, List.set_cons_zero, List.set_cons_succ]
          refine wpAnyH_take (i := 18) (oi := { dst := some 80, op := Op.load 34 (Operand.tmp 79), type := 34, pos := "law05.go:157", after := #[{ on := 17, ground := Ground.data }, { on := 11, ground := Ground.guard }], guard := some (11, true) }) (v := .agg es) rfl (by kernel_rfl) (by kernel_rfl) (by kernel_rfl) (fun _ _ _ h => h) (Or.inl ⟨by kernel_rfl, fun W h => run_exec_load_part 34 (.tmp 79) (by kernel_rfl) bc 0 94 (by kernel_rfl) W 57 (es ++ fs) es _ (h.2.1) img_under rfl zero_img.2 (hlf) (app_fst ze)⟩) hS6 ?_
          try simp only [Act.put, List.setIfInBounds_toArray, List.set_cons_zero, List.set_cons_succ]
          refine wpAnyH_take (i := 19) (oi := { dst := some 81, op := Op.load 34 (Operand.tmp 6), type := 34, pos := "law05.go:157", after := #[{ on := 11, ground := Ground.guard }], guard := some (11, true) }) (v := .agg cs) rfl (by kernel_rfl) (by kernel_rfl) (by kernel_rfl) (fun _ _ _ h => h) (Or.inl ⟨by kernel_rfl, fun W h => run_exec_load_part 34 (.tmp 6) (by kernel_rfl) g6 0 94 (by kernel_rfl) W 34 (cs) cs _ (h.2.2.1) img_under rfl zero_img.2 (by omega) (row_all zi)⟩) hS6 ?_
          try simp only [Act.put, List.setIfInBounds_toArray, List.set_cons_zero, List.set_cons_succ]
          refine wpAnyH_take (i := 20) (oi := { dst := some 82, op := Op.binOp BinOp.neq 34 (Operand.tmp 80) (Operand.tmp 81) 34, type := 4, pos := "law05.go:157", after := #[{ on := 18, ground := Ground.data }, { on := 19, ground := Ground.data }, { on := 11, ground := Ground.guard }], guard := some (11, true) }) (v := .bool false) rfl (by kernel_rfl) (by kernel_rfl) (by kernel_rfl) (fun _ _ _ h => h) (Or.inl ⟨by kernel_rfl, fun W h => run_exec_neql 34 34 (.tmp 80) (.tmp 81) (by kernel_rfl) es cs (by kernel_rfl) (by kernel_rfl) _ Tryz.eqGuardType34 (unhide QN) W⟩) hS6 ?_
          try simp only [Act.put, List.setIfInBounds_toArray, List.set_cons_zero, List.set_cons_succ]
          refine wpAnyH_take (i := 21) (oi := { dst := some 83, op := Op.pick (Operand.tmp 73) (Operand.tmp 82) (Operand.const (Value.bool false)), type := 4, pos := "law05.go:157", after := #[{ on := 11, ground := Ground.data }, { on := 20, ground := Ground.data }, { on := 8, ground := Ground.guard }], guard := some (8, false) }) (v := .bool false) rfl (by kernel_rfl) (by kernel_rfl) (by kernel_rfl) (fun _ _ _ h => h) (Or.inl ⟨by kernel_rfl, fun W h => (by first | kernel_rfl | go_simp)⟩) hS6 ?_
          try simp only [Act.put, List.setIfInBounds_toArray, List.set_cons_zero, List.set_cons_succ]
          refine wpAnyH_take (i := 22) (oi := { dst := some 84, op := Op.pick (Operand.tmp 70) (Operand.const (Value.bool true)) (Operand.tmp 83), type := 4, pos := "law05.go:157", after := #[{ on := 8, ground := Ground.data }, { on := 21, ground := Ground.data }], guard := none }) (v := .bool false) rfl (by kernel_rfl) (by kernel_rfl) (by kernel_rfl) (fun _ _ _ h => h) (Or.inl ⟨by kernel_rfl, fun W h => (by first | kernel_rfl | go_simp)⟩) hS6 ?_
          try simp only [Act.put, List.setIfInBounds_toArray, List.set_cons_zero, List.set_cons_succ]
          refine wpAnyH_done (by kernel_rfl) ?_ _
          go_wp2_with fail
          go_roundw
          case rel => exact ⟨j + 1, m, k, last, by omega, by go_num, hide ((unhide H5).call (unhide B6)), hide ((unhide K1).mono (by omega))⟩
          case measure => simp [intOf]; omega
end Sft
end Go.Proofs.YtmhbphmdfnlmkabGreat
namespace Go.Proofs.YtmhbphmdfnlmkabGreat
open Go.ChangeShapes Go.WideShapes Go.ChangeAt Go.RowKit
open Idl (open_steps Steps)
namespace Sft
set_option maxRecDepth 100000 in
theorem softExact_lifted (os : Os) (started : os.Started) (H : Type) (enc : TypeId × Value → H) :
    ReturnsInHanded {} Tryz.checked os 5 .any (Rows.softExactSpec.pre6 enc Tryz.prog Tryz.f5 Rows.softExactRow.domain false) (Rows.softExactSpec.post enc Tryz.prog Tryz.f5 false true false false) := by
  refine returnsInHanded_of_change_sized (C := Tryz.checked) Idl.TryI.own started (by kernel_rfl) Tryz.func5
    (ChangeSpec.witness6 (enc := enc) (C := Tryz.checked) false ⟨#[], #[.slice none 0 0], []⟩ 8 (by kernel_rfl) (by kernel_rfl) (by kernel_rfl) (by kernel_rfl)) ?_
  intro W base args ds gs before hval0 hW _ hsz0 _
  have hsz : (DataW.weightsEach Tryz.prog (Tryz.f5.params.toList ++ Rows.softExactSpec.plain.varTypes Tryz.prog) (ds ++ gs)).all (· ≤ reachBytes) = true := hsz0
  clear hsz0
  have hval : ∀ (j : Nat) t v, Tryz.f5.params[j]? = some t → args[j]? = some v → Value.okWide Tryz.prog W .any base t v := hval0
  have hW' := hW
  obtain ⟨p, q, hA0, hV, rfl, _, _⟩ := hW
  have hA : DataW.TrodAll enc Tryz.prog W 0 (fun _ => true) true Tryz.f5.params.toList args.toList ds p := hA0
  rw [Tryz.params5] at hA hval hsz
  obtain ⟨v0, d0, rfl, rfl, h0⟩ := trodAll_one hA
  obtain ⟨rfl, rfl⟩ := trodVars_none hV
  obtain ⟨a0, len, cap, rfl⟩ := okWide_slice Tryz.underlying35 (hval 0 35 v0 rfl rfl)
  have lt0 : ∀ y ∈ p, y.block < W.heap.size := by obtain ⟨n, hn⟩ := h0; exact DataW.trod_lt n _ _ _ hn
  clear hA0 hval0
  have w0 : ∀ n ∈ d0.weights Tryz.prog 35, n ≤ reachBytes := fun n hn => by
    simpa using List.all_eq_true.1 hsz _ (DataW.weights_mem_each (j := 0) (t := 35) (d := d0) rfl rfl n hn)
  obtain ⟨L, hL⟩ := open_steps h0 w0
  refine (softExact_any hL).mono fun e W' ⟨he, bel⟩ => ?_
  subst he
  exact ⟨_, rfl, _, _, _, [], _, [], hW', trodAll_mk1 (shut_bool Tryz.underlying4 _), (trodAll_cons_mk (Below.trod Idl.TryI.laidOut (by kernel_rfl) (of_decide_eq_true (by kernel_rfl)) h0 bel lt0) trodAll_mk0), rfl, bel.frame _, fun h => by cases h⟩
end Sft
theorem softExact_holds : Rows.SoftExactSaid :=
  OpenClaim.holds_of_wide 5 Tryz.f5 rfl rfl rfl rfl rfl rfl rfl ⟨rfl, rfl, rfl, rfl, rfl⟩ rfl rfl rfl rfl rfl (by kernel_rfl) Tryz.func5 (by kernel_rfl)
    (of_decide_eq_true (by kernel_rfl)) (by unfold Func.isWrapper; first | (rw [if_pos (by decide +kernel)]; kernel_rfl) | (rw [if_neg (by decide +kernel)]; exact ⟨rfl, rfl⟩))
    (fun os started H enc _ => Sft.softExact_lifted os started H enc)
#print axioms softExact_holds
end Go.Proofs.YtmhbphmdfnlmkabGreat
