/-
  The walks of package desk: meant; the lines' first fault.
-/
import Derived.Test.YtfpfpnhpbnnmfadGreatDoorXbt
set_option linter.unusedVariables false
namespace Go.Proofs.YtfpfpnhpbnnmfadGreatDoor
open Go.RowKit
open Idl (Stp chk stpA strs)
theorem find_at {α : Type} {p : α → Bool} : ∀ {l : List α} {k : Nat} {f : α}, l[k]? = some f → p f = true → (∀ j f', j < k → l[j]? = some f' → p f' = false) → l.find? p = some f
  | [], k, f, h, _, _ => by simp at h
  | x :: l, 0, f, h, hp, _ => by
    simp at h; subst h
    rw [List.find?_cons, hp]
  | x :: l, k + 1, f, h, hp, hn => by
    have h0 := hn 0 x (by omega) rfl
    rw [List.find?_cons, h0]
    exact find_at (l := l) (k := k) (by simpa using h) hp (fun j f' hj hf => hn (j + 1) f' (by omega) (by simpa using hf))
theorem find_no {α : Type} {p : α → Bool} {l : List α} (h : ∀ (j : Nat) f', l[j]? = some f' → p f' = false) : l.find? p = none := by
  rw [List.find?_eq_none]
  intro x hx
  obtain ⟨j, hj⟩ := List.mem_iff_getElem?.1 hx
  rw [h j x hj]; simp
theorem frms_letters : ∀ f ∈ Dsk.frms, ∀ c ∈ f.places.toList, letter c := by
  have h : ∀ f ∈ Dsk.frms, ∀ c ∈ f.places.data.toList, c = 68 ∨ c = 78 ∨ c = 69 ∨ c = 77 ∨ c = 80 ∨ c = 66 ∨ c = 84 := by decide +kernel
  intro f hf c hc
  rw [ByteArray.toList_eq] at hc
  exact h f hf c hc
theorem frms_len : Dsk.frms.length = 16 := rfl
theorem meant_at {word : ByteArray} {ws : List ByteArray} {k : Nat} {f : Dsk.Frm} (h : Dsk.frms[k]? = some f) (hp : Dsk.isFrm word ws.length f = true) (hn : ∀ j f', j < k → Dsk.frms[j]? = some f' → Dsk.isFrm word ws.length f' = false) : Dsk.meant word ws = Dsk.fills (Dsk.blank f.kind) f.places.toList ws := by
  unfold Dsk.meant
  rw [find_at h hp hn]
theorem meant_not {word : ByteArray} {ws : List ByteArray} (hn : ∀ (j : Nat) f', Dsk.frms[j]? = some f' → Dsk.isFrm word ws.length f' = false) : Dsk.meant word ws = none := by
  unfold Dsk.meant
  rw [find_no hn]
set_option maxHeartbeats 2000000 in
set_option maxRecDepth 100000 in
theorem dMeant_any (word : ByteArray) (ws : List ByteArray) (hw : ∀ s ∈ ws, s.size ≤ 100000) (hN : ws.length ≤ 100000) (v : Value) (W : World) (hv : Wds W v ws) (tb : Tabs W) :
    Calls Tryz.prog 27 #[.string word, v] W fun e w' => MeantIs (Dsk.meant word ws) e ∧ Below W.heap.size W w' := by
  have HV := hide hv
  obtain ⟨a, cp, rfl, _⟩ := hv
  have HW := hide hw
  have TB := hide tb
  have B0 := hide (show Below W.heap.size W (W.alloc (.cells (stpA (Dsk.blank 0)) 84)) from (Below.refl _ W).alloc (Nat.le_refl _) _)
  have R0 := hide (heap_alloc_last W (.cells (stpA (Dsk.blank 0)) 84))
  obtain ⟨gf, o, c, h1, h2⟩ := tb.frs
  have h1 := cell_below (unhide B0) h1
  have H2 := hide h2
  clear tb hw h2
  rw [stp_zero] at B0 R0 h1
  go_enter Tryz.func27, Tryz.ntmps27
  go_wp2_with fail
  generalize W.alloc (.cells #[.int .i64 0, .int .i64 0, .int .i64 0, .int .i64 0, .string ⟨#[]⟩, .string ⟨#[]⟩, .string ⟨#[]⟩] 84) = V0 at B0 R0 h1 ⊢
  clear h1
  go_loopw [10] (fun s wr => ∃ k : Nat, k ≤ 16 ∧ s = .int .i64 k ∧ Hid (Below W.heap.size W wr) ∧ Hid (wr.heap[W.heap.size]? = some (.cells (stpA (Dsk.blank 0)) 84)) ∧ Hid (∀ j f', j < k → Dsk.frms[j]? = some f' → Dsk.isFrm word ws.length f' = false)) (fun s _ => 16 - (intOf s).toNat)
  case atStart => exact ⟨0, Nat.zero_le _, rfl, B0, R0, hide fun j f' h => by omega⟩
  case round =>
    clear B0 R0
    obtain ⟨k, hk, rfl, B1, R1, N1⟩ := hrel
    by_cases hlt : k < 16
    case pos =>
      have t16 : decide ((k : Int) < 16) = true := by simp; omega
      obtain ⟨f, hf⟩ : ∃ f, Dsk.frms[k]? = some f := ⟨_, List.getElem?_eq_getElem (by rw [frms_len]; exact hlt)⟩
      have hcs := unhide H2 k f hf
      have c0 : wr.cell? ⟨gf, o + k * 3, none⟩ = some (.string f.word) := cell_below (unhide B1) hcs.1
      have c1 : wr.cell? ⟨gf, o + k * 3 + 1, none⟩ = some (.string f.places) := cell_below (unhide B1) hcs.2.1
      have c2 : wr.cell? ⟨gf, o + k * 3 + 2, none⟩ = some (.int .i64 f.kind) := cell_below (unhide B1) hcs.2.2
      have b2 : Below wr.heap.size wr (wr.alloc (.cells (frmA f) 118)) := (Below.refl _ wr).alloc (Nat.le_refl _) _
      have r2 := heap_alloc_last wr (.cells (frmA f) 118)
      have d0 : (wr.alloc (.cells (frmA f) 118)).cell? ⟨wr.heap.size, 0, none⟩ = some (.string f.word) := by rw [cell_of_row _ _ _ _ _ _ r2]; rfl
      have d1 : (wr.alloc (.cells (frmA f) 118)).cell? ⟨wr.heap.size, 1, none⟩ = some (.string f.places) := by rw [cell_of_row _ _ _ _ _ _ r2]; rfl
      have d2 : (wr.alloc (.cells (frmA f) 118)).cell? ⟨wr.heap.size, 2, none⟩ = some (.int .i64 f.kind) := by rw [cell_of_row _ _ _ _ _ _ r2]; rfl
      have B2 := hide ((unhide B1).trans (b2.mono (unhide B1).size))
      have R2 := hide (show (wr.alloc (.cells (frmA f) 118)).heap[W.heap.size]? = some (.cells (stpA (Dsk.blank 0)) 84) by rw [b2.block _ (Array.getElem?_eq_some_iff.1 (unhide R1)).1]; exact unhide R1)
      clear hcs b2 r2
      have IS := hide (show Dsk.isFrm word ws.length f = (f.word.toList == word.toList && f.places.size == ws.length) from rfl)
      by_cases hm : Dsk.isFrm word ws.length f = true
      case pos =>
        have hm2 := hm
        rw [unhide IS, Bool.and_eq_true] at hm2
        have q1 := hm2.1
        have q2 : ((f.places.size : Int) == (ws.length : Int)) = true := by have := hm2.2; simp at this; simp; omega
        have hsz : ws.length = f.places.size := by have := hm2.2; simp at this; exact this.symm
        have E := hide (meant_at hf hm (unhide N1))
        have P2 := hide (show f.places.size ≤ 4 by
          have h4 : ∀ f ∈ Dsk.frms, f.places.size ≤ 4 := by decide +kernel
          exact h4 f (List.mem_of_getElem? hf))
        have D := hide (filled_any f (frms_letters f (List.mem_of_getElem? hf)) ws (unhide HW) hsz (by have := unhide P2; omega) _ _ ((unhide HV).below (unhide B2)) ((unhide TB).at (unhide B2)))
        clear hm hm2 hsz hf N1 IS
        unfold frmA at D B2 R2 d0 d1 d2
        go_wp2_with fail
        refine (unhide D).mono ?_
        rintro e w3 ⟨hm3, b3⟩
        have B3 := hide ((unhide B2).trans (b3.mono (unhide B2).size))
        have R3 := hide (show w3.heap[W.heap.size]? = some (.cells (stpA (Dsk.blank 0)) 84) by rw [b3.block _ (Array.getElem?_eq_some_iff.1 (unhide R2)).1]; exact unhide R2)
        rcases hm3 with ⟨y, hy, rfl⟩ | ⟨hy, rfl⟩
        · have E3 := hide ((unhide E).trans hy)
          clear b3 D B2 R2 d0 d1 d2 c0 c1 c2 hy B1 R1
          go_wp2_with (have hx := unhide R3; refine wpList_store_row rfl 84 _ _ rfl W.heap.size (stpA y) rfl rfl 84 _ hx stp_info7 rfl (stp_all y) ?_; clear hx)
          refine bodyPost_ret (v := .tuple #[.agg (stpA y), .bool true]) ?_ rfl ⟨.inl ⟨y, unhide E3, rfl⟩, below_setRow (unhide B3) (Nat.le_refl _) _⟩
          exact results_row_tmp (P := Tryz.prog) Tryz.results27 _ _ W.heap.size 84 _ (0, 0) _ _ rfl rfl (setRow_heap _ _ _ _ _ _ (unhide R3)) stp_under7 rfl stp_info7
        · have E3 := hide ((unhide E).trans hy)
          clear b3 D B2 R2 d0 d1 d2 c0 c1 c2 hy B1 R1
          rw [stp_zero] at R3
          go_wp2_with (have hx := unhide R3; refine wpList_store_row rfl 84 _ _ rfl W.heap.size #[.int .i64 0, .int .i64 0, .int .i64 0, .int .i64 0, .string ⟨#[]⟩, .string ⟨#[]⟩, .string ⟨#[]⟩] rfl rfl 84 _ hx stp_info7 rfl (stp_all (Dsk.blank 0)) ?_; clear hx)
          refine bodyPost_ret (v := .tuple #[.agg (stpA (Dsk.blank 0)), .bool false]) ?_ rfl ⟨.inr ⟨unhide E3, rfl⟩, below_setRow (unhide B3) (Nat.le_refl _) _⟩
          exact results_row_tmp (P := Tryz.prog) Tryz.results27 _ _ W.heap.size 84 _ (0, 0) _ _ rfl rfl (setRow_heap _ _ _ _ _ _ (unhide R3)) stp_under7 rfl stp_info7
      case neg =>
        have hm2 : Dsk.isFrm word ws.length f = false := by simpa using hm
        have NN := hide (show ∀ j f', j < k + 1 → Dsk.frms[j]? = some f' → Dsk.isFrm word ws.length f' = false from fun j f' hj hf' => by
          by_cases e : j = k
          · subst e; rw [hf] at hf'; cases hf'; exact hm2
          · exact unhide N1 j f' (by omega) hf')
        rw [unhide IS] at hm2
        unfold frmA at B2 R2 d0 d1 d2
        cases q1 : (f.word.toList == word.toList)
        case false =>
          clear hm hm2 hf N1 IS
          go_wp2_with fail
          go_roundw
          case rel => exact ⟨k + 1, by omega, by go_num, B2, R2, NN⟩
          case measure => simp [intOf]; omega
        case true =>
          have q3 : (f.places.size == ws.length) = false := by rw [q1, Bool.true_and] at hm2; exact hm2
          have q2 : ((f.places.size : Int) == (ws.length : Int)) = false := by simp at q3; simp; omega
          clear hm hm2 hf N1 IS q3
          go_wp2_with fail
          go_roundw
          case rel => exact ⟨k + 1, by omega, by go_num, B2, R2, NN⟩
          case measure => simp [intOf]; omega
    case neg =>
      have t16 : decide ((k : Int) < 16) = false := by simp; omega
      have E3 := hide (show Dsk.meant word ws = none from meant_not fun j f' hf => unhide N1 j f' (by have := (List.getElem?_eq_some_iff.1 hf).1; rw [frms_len] at this; omega) hf)
      have R3 := R1
      clear N1 R1
      rw [stp_zero] at R3
      go_wp2_with (have hx := unhide R3; refine wpList_store_row rfl 84 _ _ rfl W.heap.size #[.int .i64 0, .int .i64 0, .int .i64 0, .int .i64 0, .string ⟨#[]⟩, .string ⟨#[]⟩, .string ⟨#[]⟩] rfl rfl 84 _ hx stp_info7 rfl (stp_all (Dsk.blank 0)) ?_; clear hx)
      refine bodyPost_ret (v := .tuple #[.agg (stpA (Dsk.blank 0)), .bool false]) ?_ rfl ⟨.inr ⟨unhide E3, rfl⟩, below_setRow (unhide B1) (Nat.le_refl _) _⟩
      exact results_row_tmp (P := Tryz.prog) Tryz.results27 _ _ W.heap.size 84 _ (0, 0) _ _ rfl rfl (setRow_heap _ _ _ _ _ _ (unhide R3)) stp_under7 rfl stp_info7
end Go.Proofs.YtfpfpnhpbnnmfadGreatDoor
