/-
  (*Bed).Files0 whole. (Written by genfe.py.)
-/
import Derived.Test.YtmbpckmpnnmnmacGreatXbi
import Derived.Test.YtmbpckmpnnmnmacGreatXbj
import Derived.Test.YtmbpckmpnnmnmacGreatXbk
import Derived.Test.YtmbpckmpnnmnmacGreatXbl
import Derived.Test.YtmbpckmpnnmnmacGreatXbc
import Derived.Test.YtmbpckmpnnmnmacGreatXax
import Derived.Test.YtmbpckmpnnmnmacGreatXaw
import Derived.Test.YtmbpckmpnnmnmacGreatXaz
namespace Go.Proofs.YtmbpckmpnnmnmacGreat
open Go.RowKit
open Idl (Stp chk stpA)
namespace Img
theorem scode_codes {m k : Img} {x : Stp} (h : scode m k x ≠ 0) :
    (chk x ≠ 0 ∧ scode m k x = chk x) ∨
    (chk x = 0 ∧ x.kind = 1 ∧ 0 ≤ inoOf m x.dir x.name ∧ scode m k x = 4) ∨
    (chk x = 0 ∧ x.kind = 1 ∧ inoOf m x.dir x.name < 0 ∧ freeIno m k < 0 ∧ scode m k x = 6) ∨
    (chk x = 0 ∧ x.kind = 1 ∧ inoOf m x.dir x.name < 0 ∧ ¬ freeIno m k < 0 ∧ noPlace m k x.dir x.name = true ∧ scode m k x = 6) ∨
    (chk x = 0 ∧ x.kind ≠ 1 ∧ inoOf m x.dir x.name < 0 ∧ scode m k x = 5) ∨
    (chk x = 0 ∧ (x.kind = 2 ∨ x.kind = 4) ∧ 0 ≤ inoOf m x.dir x.name ∧ 0 ≤ inoOf m x.toDir x.to ∧ scode m k x = 4) ∨
    (chk x = 0 ∧ (x.kind = 2 ∨ x.kind = 4) ∧ 0 ≤ inoOf m x.dir x.name ∧ inoOf m x.toDir x.to < 0 ∧ noPlace m k x.toDir x.to = true ∧ scode m k x = 6) ∨
    (chk x = 0 ∧ x.kind = 5 ∧ 0 ≤ inoOf m x.dir x.name ∧ m.part (inoOf m x.dir x.name).toNat x.p.toNat < 0 ∧ freeData m k < 0 ∧ scode m k x = 6) := by
  have E : scode m k x = if scheck m x ≠ 0 then scheck m x else if sfull m k x = true then 6 else 0 := rfl
  by_cases c : chk x = 0
  · by_cases k1 : x.kind = 1
    · by_cases i : 0 ≤ inoOf m x.dir x.name
      · refine .inr (.inl ⟨c, k1, i, ?_⟩)
        rw [E]; unfold scheck; simp [c, k1, i]
      · have s0 : scheck m x = 0 := by unfold scheck; simp [c, k1, i]
        by_cases f : freeIno m k < 0
        · refine .inr (.inr (.inl ⟨c, k1, by omega, f, ?_⟩))
          rw [E, s0]; unfold sfull; simp [k1, f]
        · by_cases p : noPlace m k x.dir x.name = true
          · refine .inr (.inr (.inr (.inl ⟨c, k1, by omega, f, p, ?_⟩)))
            rw [E, s0]; unfold sfull; simp [k1, p]
          · exfalso; apply h
            rw [E, s0]; unfold sfull; simp [k1, p]; omega
    · by_cases i : inoOf m x.dir x.name < 0
      · refine .inr (.inr (.inr (.inr (.inl ⟨c, k1, i, ?_⟩))))
        rw [E]; unfold scheck; simp [c, k1, i]
      · by_cases kk : x.kind = 2 ∨ x.kind = 4
        · by_cases i2 : 0 ≤ inoOf m x.toDir x.to
          · refine .inr (.inr (.inr (.inr (.inr (.inl ⟨c, kk, by omega, i2, ?_⟩)))))
            rw [E]; unfold scheck; simp [c, k1, i, kk, i2]
          · have s0 : scheck m x = 0 := by unfold scheck; simp [c, k1, i, i2]
            by_cases p : noPlace m k x.toDir x.to = true
            · refine .inr (.inr (.inr (.inr (.inr (.inr (.inl ⟨c, kk, by omega, by omega, p, ?_⟩))))))
              rw [E, s0]; unfold sfull; simp [k1, kk, p]
            · exfalso; apply h
              rw [E, s0]; unfold sfull; simp [k1, kk, p]
        · have s0 : scheck m x = 0 := by unfold scheck; simp [c, k1, i, kk]
          by_cases k5 : x.kind = 5
          · by_cases a : m.part (inoOf m x.dir x.name).toNat x.p.toNat < 0
            · by_cases f : freeData m k < 0
              · refine .inr (.inr (.inr (.inr (.inr (.inr (.inr ⟨c, k5, by omega, a, f, ?_⟩))))))
                rw [E, s0]; unfold sfull; simp [k5, a, f]
              · exfalso; apply h
                rw [E, s0]; unfold sfull; simp [k5, f]
            · exfalso; apply h
              rw [E, s0]; unfold sfull; simp [k5, a]
          · exfalso; apply h
            rw [E, s0]; unfold sfull; simp [k1, kk, k5]
  · refine .inl ⟨c, ?_⟩
    have s0 : scheck m x = chk x := by unfold scheck; simp [c]
    rw [E, s0]; simp [c]
end Img
section
variable {w W : World} {g : Nat} {cs ds : Array Value} {m k : Img} {last : Int} {t1 t2 t3 t4 : Value}
theorem files0_code (h : W.heap[g]? = some (.cells (cs ++ (ds ++ Sft.btl last t1 t2 t3 t4)) 55)) (hm : IsImg cs m) (hk : IsImg ds k) (hG : Img.Good m last) (x : Stp) (hn : x.name.size ≤ maxLen) (ht : x.to.size ≤ maxLen) (hx : x.text.size ≤ maxLen) (hc : Img.scode m k x ≠ 0) :
    Calls Tryz.prog 44 #[.pointer (some ⟨g, 0, none⟩), .agg (stpA x)] W fun e w' => e = .returned (.int .i64 (Img.scode m k x)) ∧ Bm W w' g (cs ++ (ds ++ Sft.btl last t1 t2 t3 t4)) := by
  have hok := hG.ex.ok
  have cc := Img.scode_codes hc
  have cn := fun c => Img.chk_names (x := x) c
  obtain ⟨kind, dir, toDir, p, name, tu, text⟩ := x
  dsimp only at hn ht hx cc cn
  have pre : chk ⟨kind, dir, toDir, p, name, tu, text⟩ = 0 → ∃ d : Nat, d < 3 ∧ dir = (d : Int) ∧ name.toList.isEmpty = false := fun c => by
    obtain ⟨_, _, h1, h2, _, _⟩ := cn c
    obtain ⟨d, hd⟩ := Int.eq_ofNat_of_zero_le h1.1
    exact ⟨d, by omega, hd, Img.nm_ne h2⟩
  have pre2 : chk ⟨kind, dir, toDir, p, name, tu, text⟩ = 0 → (kind = 2 ∨ kind = 4) → ∃ d : Nat, d < 3 ∧ toDir = (d : Int) ∧ tu.toList.isEmpty = false := fun c kk => by
    obtain ⟨_, _, _, _, h1, _⟩ := cn c
    obtain ⟨h1, h2⟩ := h1 kk
    obtain ⟨d, hd⟩ := Int.eq_ofNat_of_zero_le h1.1
    exact ⟨d, by omega, hd, Img.nm_ne h2⟩
  rcases cc with ⟨c, e⟩ | ⟨c, rfl, i, e⟩ | ⟨c, rfl, i, f, e⟩ | ⟨c, rfl, i, f, np, e⟩ | ⟨c, k1, i, e⟩ | ⟨c, kk, i, i2, e⟩ | ⟨c, kk, i, i2, np, e⟩ | ⟨c, rfl, i, a, f, e⟩
  · rw [e]
    exact files0_chk h kind dir toDir p name tu text hn ht hx c
  · obtain ⟨d, hd, rfl, hne⟩ := pre c
    obtain ⟨j, n, hT⟩ := Img.there hok i
    rw [e]
    exact files0_makeThere h hm hk toDir p name tu text hn ht hx hd hne c (by rw [← Sft.findAt_in hd hne]; exact hT.at_)
  · obtain ⟨d, hd, rfl, hne⟩ := pre c
    rw [e]
    exact files0_makeIno h hm hk toDir p name tu text hn ht hx hd hne c (Sft.find_m1 hd hne ((Img.inoOf_neg hok).1 i)) f
  · obtain ⟨d, hd, rfl, hne⟩ := pre c
    obtain ⟨n, _, hn', _⟩ := Img.inoAt f
    rw [e]
    exact files0_makeRoom h hm hk toDir p name tu text hn ht hx hd hne c (Sft.find_m1 hd hne ((Img.inoOf_neg hok).1 i)) hn' np
  · obtain ⟨d, hd, rfl, hne⟩ := pre c
    rw [e]
    exact files0_none h hm hk kind toDir p name tu text hn ht hx hd hne c (Sft.find_m1 hd hne ((Img.inoOf_neg hok).1 i)) (by simpa using k1)
  · obtain ⟨d, hd, rfl, hne⟩ := pre c
    obtain ⟨dd, hdd, rfl, htne⟩ := pre2 c kk
    obtain ⟨j, n, hT⟩ := Img.there hok i
    obtain ⟨jt, nt, hT2⟩ := Img.there hok i2
    rw [e]
    rcases kk with rfl | rfl
    · exact files0_linkThere h hm hk p hdd name tu text hn ht hx hd hne c (by rw [← Sft.findAt_in hd hne]; exact hT.at_) hT.k4 hT.n8 hT.ino htne (by rw [← Sft.findAt_in hdd htne]; exact hT2.at_)
    · exact files0_renameThere h hm hk p hdd name tu text hn ht hx hd hne c (by rw [← Sft.findAt_in hd hne]; exact hT.at_) hT.k4 hT.n8 hT.ino htne (by rw [← Sft.findAt_in hdd htne]; exact hT2.at_)
  · obtain ⟨d, hd, rfl, hne⟩ := pre c
    obtain ⟨dd, hdd, rfl, htne⟩ := pre2 c kk
    obtain ⟨j, n, hT⟩ := Img.there hok i
    rw [e]
    rcases kk with rfl | rfl
    · exact files0_linkRoom h hm hk p hdd name tu text hn ht hx hd hne c (by rw [← Sft.findAt_in hd hne]; exact hT.at_) hT.k4 hT.n8 hT.ino htne (Sft.find_m1 hdd htne ((Img.inoOf_neg hok).1 i2)) np
    · exact files0_renameRoom h hm hk p hdd name tu text hn ht hx hd hne c (by rw [← Sft.findAt_in hd hne]; exact hT.at_) hT.k4 hT.n8 hT.ino htne (Sft.find_m1 hdd htne ((Img.inoOf_neg hok).1 i2)) np
  · obtain ⟨d, hd, rfl, hne⟩ := pre c
    obtain ⟨_, _, _, _, _, h5⟩ := cn c
    obtain ⟨p0, p2⟩ := h5 (.inl rfl)
    obtain ⟨q, rfl⟩ := Int.eq_ofNat_of_zero_le p0
    obtain ⟨j, n, hT⟩ := Img.there hok i
    have hof : Img.inoOf m (d : Int) name = (n : Int) := hT.of
    rw [hof] at a
    simp only [Int.toNat_natCast] at a
    rw [e]
    exact files0_putFull h hm hk toDir (by omega) name tu text hn ht hx hd hne c (by rw [← Sft.findAt_in hd hne]; exact hT.at_) hT.k4 hT.n8 hT.ino a f
theorem files0_any (h : W.heap[g]? = some (.cells (cs ++ (ds ++ Sft.btl last t1 t2 t3 t4)) 55)) (hm : IsImg cs m) (hk : IsImg ds k) (hG : Img.Good m last) (hla : last < 4611686018427387904) (x : Stp) (hn : x.name.size ≤ maxLen) (ht : x.to.size ≤ maxLen) (hx : x.text.size ≤ maxLen) :
    Calls Tryz.prog 44 #[.pointer (some ⟨g, 0, none⟩), .agg (stpA x)] W fun e w' => e = .returned (.int .i64 (Img.scode m k x)) ∧ Bd W w' g ds (Sft.btl (Img.slast m k last x) t1 t2 t3 t4) (Img.sstep m k last x) := by
  by_cases hc : Img.scode m k x = 0
  · rw [hc]
    have kc := Img.sstep_cases (last := last) hc
    obtain ⟨kind, dir, toDir, p, name, tu, text⟩ := x
    rcases kc with ⟨z, _⟩ | ⟨z, _⟩ | ⟨z, _⟩ | ⟨z, _⟩ | ⟨z, _⟩ | ⟨z, _⟩
    · have z : kind = 1 := z
      subst z
      exact files0_make h hm hk hG hla dir toDir p name tu text hn ht hx hc
    · have z : kind = 2 := z
      subst z
      exact files0_link h hm hk hG dir toDir p name tu text hn ht hx hc
    · have z : kind = 3 := z
      subst z
      exact files0_unlink h hm hk hG dir toDir p name tu text hn ht hx hc
    · have z : kind = 4 := z
      subst z
      exact files0_rename h hm hk hG dir toDir p name tu text hn ht hx hc
    · have z : kind = 5 := z
      subst z
      exact files0_put h hm hk hG dir toDir p name tu text hn ht hx hc
    · have z : kind = 6 := z
      subst z
      exact files0_cut h hm hk hG dir toDir p name tu text hn ht hx hc
  · have e1 : Img.sstep m k last x = m := if_pos hc
    have e2 : Img.slast m k last x = last := if_neg (fun z => hc z.1)
    rw [e1, e2]
    refine (files0_code h hm hk hG x hn ht hx hc).mono ?_
    rintro e w' ⟨rfl, hb⟩
    exact ⟨rfl, cs, hb, hm⟩
end
end Go.Proofs.YtmbpckmpnnmnmacGreat
namespace Go.Proofs.YtmbpckmpnnmnmacGreat
open Go.RowKit
open Idl (Stp chk stpA)
end Go.Proofs.YtmbpckmpnnmnmacGreat
namespace Go.Proofs.YtmbpckmpnnmnmacGreat
open Go.RowKit
open Idl (Stp chk stpA)
namespace Lif
end Lif
end Go.Proofs.YtmbpckmpnnmnmacGreat
namespace Go.Proofs.YtmbpckmpnnmnmacGreat
open Go.RowKit
open Idl (Stp chk stpA)
section
variable {m k : Img}
end
namespace Lif
theorem ix_inos {o : Oper} {ρ : Operand → Value} (x y : Operand) (ho : o.op = .indexAddr 35 x y) {g j : Nat} (hx : ρ x = .pointer (some ⟨g, 0, none⟩)) (hy : ρ y = .int .i64 ((j : Nat) : Int)) (hj : j < 8) (w : World) : (execOp ρ o).run Tryz.prog w = .ok (.value (.pointer (some ⟨g, j * 5, none⟩))) w := by
  have jz : (j : Int) < 8 := by omega
  unfold execOp
  rw [ho]
  go_simp
theorem neqf {o : Oper} {ρ : Operand → Value} (x y : Operand) (ho : o.op = .binOp .neq 3 x y 3) {u v : Int} (hx : ρ x = .int .i64 u) (hy : ρ y = .int .i64 v) (hv : (u != v) = false) (w : World) : (execOp ρ o).run Tryz.prog w = .ok (.value (.bool false)) w := by
  unfold execOp
  rw [ho]
  go_simp
theorem ld_int {o : Oper} {ρ : Operand → Value} (x : Operand) (ho : o.op = .load 3 x) {g o0 : Nat} (hx : ρ x = .pointer (some ⟨g, o0, none⟩)) {v : Int} (w : World) (h : w.cell? ⟨g, o0, none⟩ = some (.int .i64 v)) : (execOp ρ o).run Tryz.prog w = .ok (.value (.int .i64 v)) w := by
  unfold execOp
  rw [ho]
  go_simp
end Lif
end Go.Proofs.YtmbpckmpnnmnmacGreat
