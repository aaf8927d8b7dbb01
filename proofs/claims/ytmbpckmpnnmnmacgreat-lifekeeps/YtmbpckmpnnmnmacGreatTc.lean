/-
  The walk of safe.Inode.
-/
import Derived.Test.YtmbpckmpnnmnmacGreatTb
namespace Go.Proofs.YtmbpckmpnnmnmacGreat
open Go.RowKit
def inoV (i : Ino) : Value := .agg #[.bool i.live, .int .i64 i.stamp, .int .i64 i.links, .int .i64 i.p0, .int .i64 i.p1]
def entV (e : Ent) : Value := .agg #[.string e.name, .int .i64 e.ino, .int .i64 e.est]
structure TwoT (t0 t1 : TypeId) (w wr : World) (g : Nat) (c0 c1 : Array Value) : Prop where
  below : Below w.heap.size w wr
  gt : w.heap.size < g
  size : g < wr.heap.size
  b0 : wr.heap[w.heap.size]? = some (.cells c0 t0)
  b1 : wr.heap[g]? = some (.cells c1 t1)
section
variable {t0 t1 : TypeId} {w wr w1 : World} {g : Nat} {c0 c1 : Array Value}
theorem TwoT.start (w : World) (t0 t1 : TypeId) (c0 c1 : Array Value) : TwoT t0 t1 w ((w.alloc (.cells c0 t0)).alloc (.cells c1 t1)) (w.heap.size + 1) c0 c1 :=
  ⟨((Below.refl _ _).alloc (Nat.le_refl _) _).alloc (by simp) _, by simp, by simp, heap_alloc2_old _ _ _, heap_alloc2_new _ _ _⟩
theorem TwoT.call (h : TwoT t0 t1 w wr g c0 c1) (hb : Below wr.heap.size wr w1) : TwoT t0 t1 w w1 g c0 c1 :=
  have := h.size
  have := h.gt
  have := hb.size
  ⟨h.below.trans (hb.mono (by omega)), h.gt, by omega, by rw [hb.block _ (by omega)]; exact h.b0, by rw [hb.block _ (by omega)]; exact h.b1⟩
theorem TwoT.draw (h : TwoT t0 t1 w wr g c0 c1) (q : Nat) : TwoT t0 t1 w (wr.drewN q) g c0 c1 := h.call (belowN (Below.refl _ _))
theorem TwoT.set (h : TwoT t0 t1 w wr g c0 c1) (i : Nat) (v : Value) : TwoT t0 t1 w (wr.setCell ⟨g, i, none⟩ v) g c0 (c1.setIfInBounds i v) :=
  have := h.gt
  ⟨h.below.setCell (by simp; omega) _, h.gt, by simpa using h.size, by rw [heap_setCell_other _ _ _ _ (by simp; omega)]; exact h.b0, heap_setCell_same _ _ _ _ _ _ h.b1⟩
theorem TwoT.res (h : TwoT t0 t1 w wr g c0 c1) (i : Nat) (v : Value) : TwoT t0 t1 w (wr.setCell ⟨w.heap.size, i, none⟩ v) g (c0.setIfInBounds i v) c1 :=
  have := h.gt
  ⟨h.below.setCell (by simp) _, h.gt, by simpa using h.size, heap_setCell_same _ _ _ _ _ _ h.b0, by rw [heap_setCell_other _ _ _ _ (by simp; omega)]; exact h.b1⟩
end
theorem ino_under : Tryz.prog.underlying 34 = some (.struct (Tryz.prog.fieldsOf 34)) := by kernel_rfl
theorem ino_info : (Tryz.prog.info? 34).map (·.size) = some 5 := by kernel_rfl
theorem ent_under : Tryz.prog.underlying 37 = some (.struct (Tryz.prog.fieldsOf 37)) := by kernel_rfl
theorem ent_info : (Tryz.prog.info? 37).map (·.size) = some 3 := by kernel_rfl
def ino0 : Array Value := #[.bool false, .int .i64 0, .int .i64 0, .int .i64 0, .int .i64 0]
theorem TwoT.ret5 {t1 : TypeId} {w wr : World} {g : Nat} {c1 : Array Value} (h : TwoT 34 t1 w wr g ino0 c1) (v0 v1 v2 v3 v4 : Value) :
    TwoT 34 t1 w (((((wr.setCell ⟨w.heap.size, 0, none⟩ v0).setCell ⟨w.heap.size, 1, none⟩ v1).setCell ⟨w.heap.size, 2, none⟩ v2).setCell ⟨w.heap.size, 3, none⟩ v3).setCell ⟨w.heap.size, 4, none⟩ v4) g #[v0, v1, v2, v3, v4] c1 :=
  ((((h.res 0 v0).res 1 v1).res 2 v2).res 3 v3).res 4 v4
set_option maxHeartbeats 2000000 in
theorem inodeAs_live (b c : Nat) (m k : Img) (n : Nat) (hn : n < 8) (w : World) (hm : HasImg w b m) (hk : HasImg w c k) (hl : m.live n = true) :
    Calls Tryz.prog 125 #[.pointer (some ⟨b, 0, none⟩), .pointer (some ⟨c, 0, none⟩), .int .i64 n] w fun e w' => e = .returned (inoV (Img.inodeAs m k n)) ∧ Below w.heap.size w w' := by
  have E := hide (show Img.inodeAs m k n = ⟨true, m.stamp n, Img.uni m k n, Img.partAs m k n 0, Img.partAs m k n 1⟩ by unfold Img.inodeAs; rw [if_pos hl])
  have hlv := hm.live n hn
  rw [hl] at hlv
  have hst := hm.stamp n hn
  have hln := hm.links n hn
  have hp0 := hm.part n 0 hn (by omega)
  have hp1 := hm.part n 1 hn (by omega)
  have hI : Img.isI (n : Int) = true := by simp [Img.isI]; omega
  have hu := Img.uni_le m k n
  have hlb := hm.lt
  have hlc := hk.lt
  go_enter Tryz.func125, Tryz.ntmps125
  go_wp2_with (go_at_call 139; refine (sIsInode_any _ _).mono ?_; rw [hI]; rintro e w' ⟨rfl, rfl⟩)
  have hb1 : Below w.heap.size w (w.alloc (.cells #[.bool false, .int .i64 0, .int .i64 0, .int .i64 0, .int .i64 0] 34)) := (Below.refl _ _).alloc (Nat.le_refl _) _
  refine (union_any b c m k _ _ (hm.below hb1 hm.lt) (hk.below hb1 hk.lt)).mono ?_
  rintro e w1 ⟨rfl, e1⟩
  rw [e1]
  clear e1 w1
  go_wp2_with fail
  have hb2 := hb1.alloc (by simp) (.cells #[.bool true, .int .i64 (m.stamp n), .int .i64 (m.links n), .int .i64 (m.part n 0), .int .i64 (m.part n 1)] 34)
  refine wp_loop_rounds 3 ?_
  rw [rounds_succ]
  go_wp2_with fail
  refine (part_any b c m k n 0 hn (by omega) _ (hm.below hb2 hlb) (hk.below hb2 hlc)).mono ?_
  rintro e w1 ⟨rfl, q1, rfl⟩
  go_wp2_with fail
  rw [rounds_succ]
  go_wp2_with fail
  have hb3 := (belowN (n := q1) hb2).setCell (p := ⟨w.heap.size + 1, 3, none⟩) (Nat.le_succ _) (.int .i64 (Img.partAs m k n 0))
  refine (part_any b c m k n 1 hn (by omega) _ (hm.below hb3 hlb) (hk.below hb3 hlc)).mono ?_
  rintro e w1 ⟨rfl, q2, rfl⟩
  go_wp2_with fail
  rw [rounds_succ]
  go_wp2_with fail
  rw [unhide E]
  have T1 := (((((TwoT.start w 34 34 ino0 #[.bool true, .int .i64 (m.stamp n), .int .i64 (m.links n), .int .i64 (m.part n 0), .int .i64 (m.part n 1)]).draw q1).set 3 (.int .i64 (Img.partAs m k n 0))).draw q2).set 4 (.int .i64 (Img.partAs m k n 1))).set 2 (.int .i64 (Img.uni m k n : Nat))
  have T2 := T1.ret5 (.bool true) (.int .i64 (m.stamp n)) (.int .i64 (Img.uni m k n : Nat)) (.int .i64 (Img.partAs m k n 0)) (.int .i64 (Img.partAs m k n 1))
  refine bodyPost_ret (v := inoV ⟨true, m.stamp n, Img.uni m k n, Img.partAs m k n 0, Img.partAs m k n 1⟩) ?_ rfl ⟨rfl, T2.below⟩
  exact results_cell_row (P := Tryz.prog) Tryz.results125 _ _ w.heap.size 34 _ (0, 0) _ rfl T2.b0 ino_under rfl ino_info
set_option maxHeartbeats 2000000 in
theorem inodeAs_dead (b c : Nat) (m k : Img) (n : Nat) (hn : n < 8) (w : World) (hm : HasImg w b m) (hk : HasImg w c k) (hl : m.live n = false) :
    Calls Tryz.prog 125 #[.pointer (some ⟨b, 0, none⟩), .pointer (some ⟨c, 0, none⟩), .int .i64 n] w fun e w' => e = .returned (inoV (Img.inodeAs m k n)) ∧ Below w.heap.size w w' := by
  have hlv := hm.live n hn
  rw [hl] at hlv
  have hst := hm.stamp n hn
  have hln := hm.links n hn
  have hp0 := hm.part n 0 hn (by omega)
  have hp1 := hm.part n 1 hn (by omega)
  have klv := hk.live n hn
  have kst := hk.stamp n hn
  have kln := hk.links n hn
  have kp0 := hk.part n 0 hn (by omega)
  have kp1 := hk.part n 1 hn (by omega)
  have hI : Img.isI (n : Int) = true := by simp [Img.isI]; omega
  have hu := Img.uni_le m k n
  have hlb := hm.lt
  have hlc := hk.lt
  have hb1 : Below w.heap.size w (w.alloc (.cells #[.bool false, .int .i64 0, .int .i64 0, .int .i64 0, .int .i64 0] 34)) := (Below.refl _ _).alloc (Nat.le_refl _) _
  cases gk : k.live n
  · have E := hide (show Img.inodeAs m k n = Ino.none by unfold Img.inodeAs; rw [if_neg (by rw [hl]; simp), if_neg (by rw [gk]; simp)])
    rw [gk] at klv
    clear gk hl
    go_enter Tryz.func125, Tryz.ntmps125
    go_wp2_with (go_at_call 139; refine (sIsInode_any _ _).mono ?_; rw [hI]; rintro e w' ⟨rfl, rfl⟩)
    refine (union_any b c m k _ _ (hm.below hb1 hm.lt) (hk.below hb1 hk.lt)).mono ?_
    rintro e w1 ⟨rfl, e1⟩
    rw [e1]
    clear e1 w1
    go_wp2_with fail
    refine (free_any _).mono ?_
    rintro e w2 ⟨rfl, hb⟩
    obtain ⟨hc, hf⟩ := bcell hb
    go_wp2_with fail
    have T2 := ((TwoT.start w 34 34 ino0 _).call hb).ret5 (.bool false) (.int .i64 0) (.int .i64 0) (.int .i64 (-1)) (.int .i64 (-1))
    rw [unhide E]
    refine bodyPost_ret (v := inoV Ino.none) ?_ rfl ⟨rfl, T2.below⟩
    exact results_cell_row (P := Tryz.prog) Tryz.results125 _ _ w.heap.size 34 _ (0, 0) _ rfl T2.b0 ino_under rfl ino_info
  · rw [gk] at klv
    cases gu : (((Img.uni m k n : Nat) : Int) == 0)
    · have E := hide (show Img.inodeAs m k n = ⟨true, k.stamp n, Img.uni m k n, k.part n 0, k.part n 1⟩ by unfold Img.inodeAs; rw [if_neg (by rw [hl]; simp), if_pos ⟨gk, by simp at gu; omega⟩])
      clear gk hl
      go_enter Tryz.func125, Tryz.ntmps125
      go_wp2_with (go_at_call 139; refine (sIsInode_any _ _).mono ?_; rw [hI]; rintro e w' ⟨rfl, rfl⟩)
      refine (union_any b c m k _ _ (hm.below hb1 hm.lt) (hk.below hb1 hk.lt)).mono ?_
      rintro e w1 ⟨rfl, e1⟩
      rw [e1]
      clear e1 w1
      go_wp2_with fail
      rw [unhide E]
      have T1 := TwoT.start w 34 34 #[.bool true, .int .i64 (k.stamp n), .int .i64 (Img.uni m k n : Nat), .int .i64 (k.part n 0), .int .i64 (k.part n 1)] #[.bool true, .int .i64 (k.stamp n), .int .i64 (Img.uni m k n : Nat), .int .i64 (k.part n 0), .int .i64 (k.part n 1)]
      refine bodyPost_ret (v := inoV ⟨true, k.stamp n, Img.uni m k n, k.part n 0, k.part n 1⟩) ?_ rfl ⟨rfl, T1.below⟩
      exact results_cell_row (P := Tryz.prog) Tryz.results125 _ _ w.heap.size 34 _ (0, 0) _ rfl T1.b0 ino_under rfl ino_info
    · have E := hide (show Img.inodeAs m k n = Ino.none by unfold Img.inodeAs; rw [if_neg (by rw [hl]; simp), if_neg (fun z => z.2 (by simp at gu; omega))])
      clear gk hl
      go_enter Tryz.func125, Tryz.ntmps125
      go_wp2_with (go_at_call 139; refine (sIsInode_any _ _).mono ?_; rw [hI]; rintro e w' ⟨rfl, rfl⟩)
      refine (union_any b c m k _ _ (hm.below hb1 hm.lt) (hk.below hb1 hk.lt)).mono ?_
      rintro e w1 ⟨rfl, e1⟩
      rw [e1]
      clear e1 w1
      go_wp2_with fail
      refine (free_any _).mono ?_
      rintro e w2 ⟨rfl, hb⟩
      obtain ⟨hc, hf⟩ := bcell hb
      go_wp2_with fail
      have T2 := ((TwoT.start w 34 34 ino0 _).call hb).ret5 (.bool false) (.int .i64 0) (.int .i64 0) (.int .i64 (-1)) (.int .i64 (-1))
      rw [unhide E]
      refine bodyPost_ret (v := inoV Ino.none) ?_ rfl ⟨rfl, T2.below⟩
      exact results_cell_row (P := Tryz.prog) Tryz.results125 _ _ w.heap.size 34 _ (0, 0) _ rfl T2.b0 ino_under rfl ino_info
theorem inode_of (b c : Nat) (m k : Img) (n : Nat) (hn : n < 8) (w : World) (hm : HasImg w b m) (hk : HasImg w c k) :
    Calls Tryz.prog 125 #[.pointer (some ⟨b, 0, none⟩), .pointer (some ⟨c, 0, none⟩), .int .i64 n] w fun e w' => e = .returned (inoV (Img.inodeAs m k n)) ∧ Below w.heap.size w w' := by
  cases h : m.live n
  · exact inodeAs_dead b c m k n hn w hm hk h
  · exact inodeAs_live b c m k n hn w hm hk h
end Go.Proofs.YtmbpckmpnnmnmacGreat
