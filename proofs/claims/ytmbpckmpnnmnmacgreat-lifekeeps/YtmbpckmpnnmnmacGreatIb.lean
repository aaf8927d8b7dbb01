/-
  A world without a disk, as plain data: what each step does, and what stays so. No Go in here.
-/
import Derived.Test.YtmbpckmpnnmnmacGreatIa
import Derived.Test.YtmbpckmpnnmnmacGreatImg
namespace Go.Proofs.YtmbpckmpnnmnmacGreat
namespace Idl
structure Stp where
  kind : Int
  dir : Int
  toDir : Int
  p : Int
  name : ByteArray
  to : ByteArray
  text : ByteArray
structure St where
  dir : Nat → List Ent
  has : Nat → Nat → Bool
  txt : Nat → Nat → ByteArray
  next : Nat
def none0 : ByteArray := ⟨#[]⟩
def isD (d : Int) : Bool := decide (0 ≤ d) && decide (d < 3)
def spot (d : Int) (s : ByteArray) : Int := if isD d = false then 1 else if Img.isNmB s.toList = false then 2 else 0
def chk (x : Stp) : Int :=
  if x.kind < 1 ∨ 6 < x.kind then 7 else
  if spot x.dir x.name ≠ 0 then spot x.dir x.name else
  if x.kind = 2 ∨ x.kind = 4 then spot x.toDir x.to else
  if (x.kind = 5 ∨ x.kind = 6) ∧ (x.p < 0 ∨ 2 ≤ x.p) then 1 else
  if x.kind = 5 ∧ 8 < x.text.size then 3 else 0
def lookS (S : St) (d : Int) (s : ByteArray) : Option Nat := if isD d then look (S.dir d.toNat) s else none
def code (S : St) (x : Stp) : Int :=
  if chk x ≠ 0 then chk x else
  if x.kind = 1 then (if (lookS S x.dir x.name).isSome then 4 else 0) else
  if (lookS S x.dir x.name).isSome = false then 5 else
  if (x.kind = 2 ∨ x.kind = 4) ∧ (lookS S x.toDir x.to).isSome then 4 else 0
def setD (f : Nat → List Ent) (d : Nat) (l : List Ent) : Nat → List Ent := fun e => if e = d then l else f e
def St.add (S : St) (d : Nat) (s : ByteArray) (n : Nat) : St := { S with dir := setD S.dir d (ins (S.dir d) s n) }
def St.drop (S : St) (d : Nat) (s : ByteArray) : St := { S with dir := setD S.dir d (del (S.dir d) s) }
def St.put (S : St) (n p : Nat) (b : Bool) (t : ByteArray) : St :=
  { S with has := fun i q => if i = n ∧ q = p then b else S.has i q, txt := fun i q => if i = n ∧ q = p then t else S.txt i q }
def St.fresh (S : St) : St :=
  { S with has := fun i q => if i = S.next then false else S.has i q, txt := fun i q => if i = S.next then none0 else S.txt i q, next := S.next + 1 }
def the (S : St) (x : Stp) : Nat := (lookS S x.dir x.name).getD 0
def step (S : St) (x : Stp) : St :=
  if code S x ≠ 0 then S else
  if x.kind = 1 then S.fresh.add x.dir.toNat x.name S.next else
  if x.kind = 2 then S.add x.toDir.toNat x.to (the S x) else
  if x.kind = 3 then S.drop x.dir.toNat x.name else
  if x.kind = 4 then (S.add x.toDir.toNat x.to (the S x)).drop x.dir.toNat x.name else
  if x.kind = 5 then S.put (the S x) x.p.toNat true x.text else S.put (the S x) x.p.toNat false none0
def cut (d : Int) (s : ByteArray) (p : Int) : Stp := ⟨6, d, 0, p, s, none0, none0⟩
def rdT (S : St) (d : Int) (s : ByteArray) (p : Int) : ByteArray := if code S (cut d s p) ≠ 0 then none0 else S.txt (the S (cut d s p)) p.toNat
def rdB (S : St) (d : Int) (s : ByteArray) (p : Int) : Bool := if code S (cut d s p) ≠ 0 then false else S.has (the S (cut d s p)) p.toNat
def same (S : St) (d : Int) (s : ByteArray) (e : Int) (t : ByteArray) : Bool :=
  match lookS S d s, lookS S e t with
  | some a, some b => a == b
  | _, _ => false
def names (S : St) (d : Int) : List ByteArray := if isD d then (S.dir d.toNat).map (·.1) else []
def St.empty : St := ⟨fun _ => [], fun _ _ => false, fun _ _ => none0, 0⟩
structure Inv (S : St) : Prop where
  rise : ∀ d, Rising (S.dir d)
  good : ∀ d, ∀ e ∈ S.dir d, Img.isNmB e.1.toList = true
  low : ∀ d, ∀ e ∈ S.dir d, e.2 < S.next
theorem Inv.empty : Inv St.empty := ⟨fun _ => List.Pairwise.nil, fun _ e h => (by cases h), fun _ e h => (by cases h)⟩
theorem mem_ins {l : List Ent} {s : ByteArray} {n : Nat} {e : Ent} (h : e ∈ ins l s n) : e = (s, n) ∨ e ∈ l := by
  unfold ins at h
  rcases List.mem_append.1 h with h | h
  · exact .inr (List.mem_of_mem_take h)
  · rcases List.mem_cons.1 h with h | h
    · exact .inl h
    · exact .inr (List.mem_of_mem_drop h)
theorem mem_del {l : List Ent} {s : ByteArray} {e : Ent} (h : e ∈ del l s) : e ∈ l := by
  unfold del at h
  rcases List.mem_append.1 h with h | h
  · exact List.mem_of_mem_take h
  · exact List.mem_of_mem_drop h
theorem Inv.add {S : St} (h : Inv S) (d : Nat) (s : ByteArray) (n : Nat) (hl : look (S.dir d) s = none) (hs : Img.isNmB s.toList = true) (hn : n < S.next) : Inv (S.add d s n) := by
  refine ⟨fun e => ?_, fun e x hx => ?_, fun e x hx => ?_⟩
  · show Rising (if e = d then _ else _)
    split
    · exact ins_rising (h.rise d) n hl
    · exact h.rise e
  · have hx' : x ∈ (if e = d then ins (S.dir d) s n else S.dir e) := hx
    split at hx'
    · rcases mem_ins hx' with rfl | hx'
      · exact hs
      · exact h.good d x hx'
    · exact h.good e x hx'
  · have hx' : x ∈ (if e = d then ins (S.dir d) s n else S.dir e) := hx
    split at hx'
    · rcases mem_ins hx' with rfl | hx'
      · exact hn
      · exact h.low d x hx'
    · exact h.low e x hx'
theorem Inv.drop {S : St} (h : Inv S) (d : Nat) (s : ByteArray) {n : Nat} (hl : look (S.dir d) s = some n) : Inv (S.drop d s) := by
  refine ⟨fun e => ?_, fun e x hx => ?_, fun e x hx => ?_⟩
  · show Rising (if e = d then _ else _)
    split
    · exact del_rising (h.rise d) hl
    · exact h.rise e
  · have hx' : x ∈ (if e = d then del (S.dir d) s else S.dir e) := hx
    split at hx'
    · exact h.good d x (mem_del hx')
    · exact h.good e x hx'
  · have hx' : x ∈ (if e = d then del (S.dir d) s else S.dir e) := hx
    split at hx'
    · exact h.low d x (mem_del hx')
    · exact h.low e x hx'
theorem Inv.put {S : St} (h : Inv S) (n p : Nat) (b : Bool) (t : ByteArray) : Inv (S.put n p b t) := ⟨h.rise, h.good, h.low⟩
theorem Inv.fresh {S : St} (h : Inv S) : Inv S.fresh := ⟨h.rise, h.good, fun d e he => Nat.lt_succ_of_lt (h.low d e he)⟩
theorem spot_zero {d : Int} {s : ByteArray} (h : spot d s = 0) : isD d = true ∧ Img.isNmB s.toList = true := by
  unfold spot at h
  split at h
  · omega
  · split at h
    · omega
    · rename_i h1 h2
      exact ⟨by simpa using h1, by simpa using h2⟩
theorem isD_iff {d : Int} : isD d = true ↔ 0 ≤ d ∧ d < 3 := by simp [isD]
theorem lookS_in {S : St} {d : Int} {s : ByteArray} (h : isD d = true) : lookS S d s = look (S.dir d.toNat) s := by simp [lookS, h]
/-- what a step without a code may lean on -/
structure Goes (S : St) (x : Stp) : Prop where
  k1 : 1 ≤ x.kind
  k6 : x.kind ≤ 6
  din : isD x.dir = true
  nm : Img.isNmB x.name.toList = true
  mak : x.kind = 1 → look (S.dir x.dir.toNat) x.name = none
  old : x.kind ≠ 1 → look (S.dir x.dir.toNat) x.name = some (the S x)
  to : x.kind = 2 ∨ x.kind = 4 → isD x.toDir = true ∧ Img.isNmB x.to.toList = true ∧ look (S.dir x.toDir.toNat) x.to = none
  part : x.kind = 5 ∨ x.kind = 6 → 0 ≤ x.p ∧ x.p < 2
  text : x.kind = 5 → x.text.size ≤ 8
theorem chk_zero {x : Stp} (h : chk x = 0) : 1 ≤ x.kind ∧ x.kind ≤ 6 ∧ spot x.dir x.name = 0 ∧ (x.kind = 2 ∨ x.kind = 4 → spot x.toDir x.to = 0) ∧ (x.kind = 5 ∨ x.kind = 6 → 0 ≤ x.p ∧ x.p < 2) ∧ (x.kind = 5 → x.text.size ≤ 8) := by
  unfold chk at h
  split at h
  · omega
  · split at h
    · contradiction
    · split at h
      · refine ⟨by omega, by omega, by omega, fun _ => h, fun h5 => by omega, fun h5 => by omega⟩
      · split at h
        · omega
        · split at h
          · omega
          · refine ⟨by omega, by omega, by omega, fun h2 => by omega, fun h5 => by omega, fun h5 => by omega⟩
theorem goes {S : St} {x : Stp} (h : code S x = 0) : Goes S x := by
  unfold code at h
  split at h
  · contradiction
  · rename_i hc
    obtain ⟨a1, a2, a3, a4, a5, a6⟩ := chk_zero (Decidable.not_not.1 hc)
    obtain ⟨b1, b2⟩ := spot_zero a3
    have e1 := lookS_in (S := S) (s := x.name) b1
    have e2 : ∀ n, lookS S x.dir x.name = some n → the S x = n := fun n hn => by simp [the, hn]
    split at h
    · split at h
      · omega
      · rename_i hk hl
        have hl' : look (S.dir x.dir.toNat) x.name = none := by rw [← e1]; simpa using hl
        exact ⟨a1, a2, b1, b2, fun _ => hl', fun hne => absurd hk hne, fun h2 => by omega, a5, a6⟩
    · rename_i hk
      split at h
      · omega
      · rename_i hl
        obtain ⟨n, hn⟩ : ∃ n, lookS S x.dir x.name = some n := Option.isSome_iff_exists.1 (Bool.not_eq_false _ ▸ hl)
        have hold : look (S.dir x.dir.toNat) x.name = some (the S x) := by rw [e2 n hn, ← e1, hn]
        split at h
        · omega
        · rename_i h24
          refine ⟨a1, a2, b1, b2, fun hk1 => absurd hk1 hk, fun _ => hold, fun h2 => ?_, a5, a6⟩
          obtain ⟨c1, c2⟩ := spot_zero (a4 h2)
          refine ⟨c1, c2, ?_⟩
          rw [← lookS_in c1]
          cases hh : lookS S x.toDir x.to with
          | none => rfl
          | some m => exact absurd ⟨h2, by rw [hh]; rfl⟩ h24
theorem look_setD (f : Nat → List Ent) (d : Nat) (l : List Ent) (e : Nat) : setD f d l e = if e = d then l else f e := rfl
theorem old_lt {S : St} (h : Inv S) {d : Nat} {s : ByteArray} {n : Nat} (hl : look (S.dir d) s = some n) : n < S.next := h.low d (s, n) (look_some hl)
/-- behind a rename's first half the old name still stands -/
theorem ren_old {S : St} (h : Inv S) {x : Stp} (g : Goes S x) (hk : x.kind = 4) :
    look ((S.add x.toDir.toNat x.to (the S x)).dir x.dir.toNat) x.name = some (the S x) := by
  have h1 := g.old (by omega)
  obtain ⟨_, _, h2⟩ := g.to (.inr hk)
  show look (if x.dir.toNat = x.toDir.toNat then _ else _) x.name = _
  split
  · rename_i e
    rw [ins_look (h.rise _), ← e, h1]
    rw [e] at h1
    split
    · rename_i hkq
      rw [keq_iff.1 hkq, h1] at h2
    · rfl
  · exact h1
theorem step_cases {S : St} {x : Stp} (h : code S x = 0) :
    (x.kind = 1 ∧ step S x = S.fresh.add x.dir.toNat x.name S.next) ∨ (x.kind = 2 ∧ step S x = S.add x.toDir.toNat x.to (the S x)) ∨
    (x.kind = 3 ∧ step S x = S.drop x.dir.toNat x.name) ∨ (x.kind = 4 ∧ step S x = (S.add x.toDir.toNat x.to (the S x)).drop x.dir.toNat x.name) ∨
    (x.kind = 5 ∧ step S x = S.put (the S x) x.p.toNat true x.text) ∨ (x.kind = 6 ∧ step S x = S.put (the S x) x.p.toNat false none0) := by
  have g := goes h
  have k1 := g.k1
  have k6 := g.k6
  have hn : ¬ (code S x ≠ 0) := by omega
  have hc : x.kind = 1 ∨ x.kind = 2 ∨ x.kind = 3 ∨ x.kind = 4 ∨ x.kind = 5 ∨ x.kind = 6 := by omega
  rcases hc with e | e | e | e | e | e <;> simp [step, h, e]
theorem inv_step {S : St} (h : Inv S) (x : Stp) : Inv (step S x) := by
  by_cases hc : code S x = 0
  · have g := goes hc
    have lo : x.kind ≠ 1 → the S x < S.next := fun hk => old_lt h (g.old hk)
    rcases step_cases hc with ⟨k, e⟩ | ⟨k, e⟩ | ⟨k, e⟩ | ⟨k, e⟩ | ⟨k, e⟩ | ⟨k, e⟩ <;> rw [e]
    · exact h.fresh.add _ _ _ (g.mak k) g.nm (Nat.lt_succ_self _)
    · obtain ⟨t1, t2, t3⟩ := g.to (.inl k)
      exact h.add _ _ _ t3 t2 (lo (by omega))
    · exact h.drop _ _ (g.old (by omega))
    · obtain ⟨t1, t2, t3⟩ := g.to (.inr k)
      exact (h.add _ _ _ t3 t2 (lo (by omega))).drop _ _ (ren_old h g k)
    · exact h.put _ _ _ _
    · exact h.put _ _ _ _
  · simp [step, hc]; exact h
end Idl
end Go.Proofs.YtmbpckmpnnmnmacGreat
