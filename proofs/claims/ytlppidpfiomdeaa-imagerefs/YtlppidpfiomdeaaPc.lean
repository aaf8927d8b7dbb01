/-
  Plain laws of images: each entry leads to one. No Go in here.
-/
import Derived.Test.YtlppidpfiomdeaaPb
namespace Go.Proofs.Ytlppidpfiomdeaa
namespace Img
variable {m : Img}
def sumN (f : Nat → Nat) : Nat → Nat
  | 0 => 0
  | n + 1 => sumN f n + f n
theorem sumN_congr {f g : Nat → Nat} : ∀ {n : Nat}, (∀ i, i < n → f i = g i) → sumN f n = sumN g n
  | 0, _ => rfl
  | n + 1, h => by
    have h1 := sumN_congr (f := f) (g := g) (n := n) (fun i hi => h i (by omega))
    unfold sumN; rw [h1, h n (by omega)]
theorem sumN_add (f g : Nat → Nat) : ∀ n : Nat, sumN (fun i => f i + g i) n = sumN f n + sumN g n
  | 0 => rfl
  | n + 1 => by
    have h1 := sumN_add f g n
    unfold sumN; omega
theorem sumN_zero : ∀ n : Nat, sumN (fun _ => 0) n = 0
  | 0 => rfl
  | n + 1 => by unfold sumN; rw [sumN_zero n]
theorem sumN_comm (f : Nat → Nat → Nat) (b : Nat) : ∀ a : Nat, sumN (fun i => sumN (fun j => f i j) b) a = sumN (fun j => sumN (fun i => f i j) a) b
  | 0 => by
    show 0 = sumN (fun _ => 0) b
    rw [sumN_zero]
  | a + 1 => by
    show sumN (fun i => sumN (fun j => f i j) b) a + sumN (fun j => f a j) b = sumN (fun j => sumN (fun i => f i j) a + f a j) b
    rw [sumN_comm f b a, sumN_add]
theorem sumN_single {k : Nat} : ∀ {n : Nat}, sumN (fun i => if k = i then 1 else 0) n = if k < n then 1 else 0
  | 0 => by simp [sumN]
  | n + 1 => by
    unfold sumN
    rw [sumN_single (k := k) (n := n)]
    by_cases h : k < n
    · rw [if_pos h, if_neg (by omega), if_pos (by omega)]
    · rw [if_neg h]
      by_cases e : k = n
      · rw [if_pos e, if_pos (by omega)]
      · rw [if_neg e, if_neg (by omega)]
theorem cnt_sum (p : Nat → Bool) : ∀ n, cnt p n = sumN (fun i => if p i then 1 else 0) n
  | 0 => rfl
  | n + 1 => by unfold cnt sumN; rw [cnt_sum p n]
theorem refsTo_sum (ino : Int) : ∀ d, m.refsTo ino d = sumN (fun d' => sumN (fun s => if m.leads ino d' s then 1 else 0) 4) d
  | 0 => rfl
  | d + 1 => by unfold refsTo sumN; rw [refsTo_sum ino d, cnt_sum]
def namesTo (m : Img) : Nat → Nat
  | 0 => 0
  | d + 1 => namesTo m d + cnt (m.named d) 4
theorem namesTo_le (m : Img) : ∀ d, m.namesTo d ≤ 4 * d
  | 0 => Nat.le_refl _
  | d + 1 => by have := namesTo_le m d; have := cnt_le (m.named d) 4; unfold namesTo; omega
theorem namesTo_sum : ∀ d, m.namesTo d = sumN (fun d' => sumN (fun s => if m.named d' s then 1 else 0) 4) d
  | 0 => rfl
  | d + 1 => by unfold namesTo sumN; rw [namesTo_sum d, cnt_sum]
def liveTo (m : Img) : Nat → Nat
  | 0 => 0
  | n + 1 => liveTo m n + (if m.live n then m.refs n else 0)
theorem liveTo_le (m : Img) : ∀ n, m.liveTo n ≤ 12 * n
  | 0 => Nat.le_refl _
  | n + 1 => by have := liveTo_le m n; have := m.refs_le n; unfold liveTo; split <;> omega
theorem liveTo_sum : ∀ n, m.liveTo n = sumN (fun i => if m.live i then m.refs i else 0) n
  | 0 => rfl
  | n + 1 => by unfold liveTo sumN; rw [liveTo_sum n]
theorem leads_ok (h : m.check = 0) {d s n : Nat} (hd : d < 3) (hs : s < 4) (hl : m.leads (n : Int) d s = true) : n < 8 ∧ m.live n = true := by
  unfold leads at hl
  rw [Bool.and_eq_true] at hl
  have k := (slot_ok hl.1).1 ((well_iff.1 h).slot d s hd hs)
  have e : m.ino d s = n := by simpa using hl.2
  have k1 := k.hi
  have k2 := k.live
  rw [e] at k1 k2
  exact ⟨by omega, by simpa using k2⟩
theorem refs_dead (h : m.check = 0) {n : Nat} (hl : m.live n = false) : m.refs n = 0 := by
  unfold refs
  rw [refsTo_sum]
  refine (sumN_congr fun d hd => ?_).trans (sumN_zero 3)
  refine (sumN_congr fun s hs => ?_).trans (sumN_zero 4)
  cases e : m.leads (n : Int) d s
  · rfl
  · have := (leads_ok h hd hs e).2; rw [hl] at this; cases this
theorem one_leads (h : m.check = 0) {d s : Nat} (hd : d < 3) (hs : s < 4) : sumN (fun n => if m.leads (n : Int) d s then 1 else 0) 8 = if m.named d s then 1 else 0 := by
  cases hn : m.named d s
  · refine (sumN_congr fun n _ => ?_).trans (sumN_zero 8)
    unfold leads; rw [hn]; rfl
  · have k := (slot_ok hn).1 ((well_iff.1 h).slot d s hd hs)
    obtain ⟨i, hi⟩ := Int.eq_ofNat_of_zero_le k.lo
    have hi8 : i < 8 := by have := k.hi; omega
    have e : sumN (fun n => if m.leads (n : Int) d s then 1 else 0) 8 = sumN (fun n => if i = n then 1 else 0) 8 := sumN_congr fun n _ => by
      unfold leads
      rw [hn, hi, Bool.true_and]
      by_cases e : i = n
      · subst e; simp
      · rw [if_neg e, if_neg]
        simp; omega
    rw [e, sumN_single, if_pos hi8]; rfl
theorem names_live (h : m.check = 0) : m.namesTo 3 = m.liveTo 8 := by
  have e1 : m.liveTo 8 = sumN (fun n => m.refs (n : Nat)) 8 := by
    rw [liveTo_sum]
    refine sumN_congr fun n _ => ?_
    cases hl : m.live n
    · rw [refs_dead h hl]; rfl
    · rfl
  have e2 : sumN (fun n => m.refs (n : Nat)) 8 = sumN (fun n => sumN (fun d => sumN (fun s => if m.leads (n : Int) d s then 1 else 0) 4) 3) 8 :=
    sumN_congr fun n _ => m.refsTo_sum (n : Int) 3
  rw [e1, e2, sumN_comm, namesTo_sum]
  refine sumN_congr fun d hd => ?_
  rw [sumN_comm]
  exact sumN_congr fun s hs => (one_leads h hd hs).symm
theorem part_ok (h : m.check = 0) {n p : Nat} (hn : n < 8) (hp : p < 2) (hl : m.live n = true) : m.part n p = -1 ∨ (0 ≤ m.part n p ∧ m.part n p < 9) := by
  have h0 := (well_iff.1 h).inode n hn
  unfold checkInode at h0
  rw [if_neg (by rw [hl]; simp)] at h0
  by_cases hb : m.stamp n < 1 ∨ m.links n < m.refs n
  · rw [if_pos hb] at h0; simp at h0
  rw [if_neg hb] at h0
  have h1 := firstNZ_eq_zero h0 p hp
  unfold checkPart at h1
  by_cases e : m.part n p = -1
  · exact .inl e
  rw [if_neg e] at h1
  by_cases e2 : isD (m.part n p) = false
  · rw [if_pos e2] at h1; simp at h1
  · right
    have : isD (m.part n p) = true := by simpa using e2
    simpa [isD] using this
/-- how often a data is held by the first t parts -/
def hc (m : Img) (t x : Nat) : Nat := cnt (fun u => m.pa u == (x : Int)) t
theorem cnt_one {p : Nat → Bool} : ∀ {n : Nat}, (∀ t, t < n → p t = true → ∀ u, u < t → p u = false) → cnt p n ≤ 1
  | 0, _ => Nat.zero_le _
  | n + 1, h => by
    have h1 := cnt_one (p := p) (n := n) (fun t ht => h t (by omega))
    cases hp : p n
    · rw [cnt_no hp]; exact h1
    · rw [cnt_yes hp]
      have : cnt p n = 0 := by
        have e := cnt_congr (p := p) (q := fun _ => false) (n := n) (fun j hj => h n (by omega) hp j hj)
        rw [e, cnt_sum]; exact sumN_zero n
      omega
theorem cnt_any {p : Nat → Bool} : ∀ {n : Nat}, cnt p n = 0 ↔ anyB p n = false
  | 0 => ⟨fun _ => rfl, fun _ => rfl⟩
  | n + 1 => by
    unfold anyB
    rw [Bool.or_eq_false_iff, ← cnt_any (p := p) (n := n)]
    cases hp : p n
    · rw [cnt_no hp]; simp
    · rw [cnt_yes hp]; simp
theorem hc_le (h : m.check = 0) {x : Nat} (hx : x < 9) : m.hc 16 x ≤ 1 := by
  have hd := anyB_false.1 (well_iff.1 h).datas
  refine cnt_one fun t ht hp u hu => ?_
  have e : m.pa t = x := by simpa using hp
  have h1 := hd t ht
  rw [e, Bool.and_eq_false_iff] at h1
  rcases h1 with h1 | h1
  · simp [isD] at h1; omega
  · exact anyB_false.1 h1 u hu
theorem holds_any {x : Nat} (hx : x < 9) : m.holds x = anyB (fun u => m.pa u == (x : Int)) 16 := by
  have hD : isD (x : Int) = true := by simp [isD]; omega
  unfold holds
  rw [hD, Bool.true_and]
  cases e : anyB (fun u => m.pa u == (x : Int)) 16
  · rw [anyB_false] at e ⊢
    intro n hn
    cases hl : m.live n
    · rfl
    · have h0 := e (2 * n) (by omega)
      have h1 := e (2 * n + 1) (by omega)
      unfold pa at h0 h1
      rw [show 2 * n / 2 = n by omega, show 2 * n % 2 = 0 by omega, hl, if_pos rfl] at h0
      rw [show (2 * n + 1) / 2 = n by omega, show (2 * n + 1) % 2 = 1 by omega, hl, if_pos rfl] at h1
      unfold hasPart
      rw [h0, h1]; rfl
  · cases e2 : anyB (fun n => m.live n && m.hasPart n (x : Int)) 8
    · exfalso
      rw [anyB_false] at e2
      have : anyB (fun u => m.pa u == (x : Int)) 16 = false := by
        rw [anyB_false]
        intro u hu
        have h0 := e2 (u / 2) (by omega)
        unfold pa
        cases hl : m.live (u / 2)
        · rw [if_neg (by simp)]; simp
        · rw [if_pos rfl]
          rw [hl, Bool.true_and] at h0
          unfold hasPart at h0
          rw [Bool.or_eq_false_iff] at h0
          rcases Nat.lt_or_ge (u % 2) 1 with y | y
          · rw [show u % 2 = 0 by omega]; exact h0.1
          · rw [show u % 2 = 1 by omega]; exact h0.2
      rw [this] at e; cases e
    · rfl
theorem holds_hc (h : m.check = 0) {x : Nat} (hx : x < 9) : m.holds x = (m.hc 16 x == 1) := by
  rw [holds_any hx]
  have hle := hc_le h hx
  cases e : anyB (fun u => m.pa u == (x : Int)) 16
  · have : m.hc 16 x = 0 := cnt_any.2 e
    rw [this]; rfl
  · have : m.hc 16 x ≠ 0 := fun z => by rw [cnt_any.1 z] at e; cases e
    have : m.hc 16 x = 1 := by omega
    rw [this]; rfl
end Img
end Go.Proofs.Ytlppidpfiomdeaa
