/-
  The walk of eiderdownlaw.cacheBegun.
-/
import Derived.Test.YtgipceeheohafabCh
namespace Go.Proofs.Ytgipceeheohafab
open Go.RowKit
theorem zero_kinds : Kinds zeroCells := .of (size_newTo 0) (by kernel_rfl)
theorem zero_check : (imgOf zeroCells).check = 12 := by kernel_rfl
theorem cb_clean : Img.sameImg blankI blankI = true := by kernel_rfl
theorem cb_dirty0 : Img.dirty blankI blankI 0 = false := by kernel_rfl
theorem cb_ino : Img.freeIno blankI blankI = 0 := by kernel_rfl
theorem cb_slot1 : Img.freeSlot blankI blankI 1 = 0 := by kernel_rfl
theorem cb_data : Img.freeData blankI blankI = 0 := by kernel_rfl
theorem cb_slot3 : Img.freeSlot blankI blankI 3 = -1 := by kernel_rfl
theorem cb_dirty3 : Img.dirty oneI blankI 3 = true := by kernel_rfl
theorem cb_clean2 : Img.sameImg oneI blankI = false := by kernel_rfl
theorem cb_ino2 : Img.freeIno oneI blankI = 0 := by kernel_rfl
theorem cb_sync : (Img.syn oneI 8 blankI).1 = 2 := by kernel_rfl
theorem cb_synced : Img.sameImg oneI (Img.syn oneI 8 blankI).2 = true := by kernel_rfl
theorem cb_clean3 : Img.sameImg oneI oneI = true := by kernel_rfl
theorem cb_out : Img.inB (-1) = false := by decide
set_option maxRecDepth 100000 in
set_option maxHeartbeats 4000000 in
theorem cacheBegun_any (w : World) :
    Calls Try.prog 15 #[] w fun e w' => e = .returned (.bool true) ∧ Below w.heap.size w w' := by
  have bz := build_img
  have q1 := eqImg one_is
  have z1 := size_one
  have z2 := size_blank
  go_enter Try.func15, Try.ntmps15
  go_wp2_with fail
  refine (cNew_any _).mono ?_
  rintro e w1 ⟨⟨gc, rfl, hgc, hrc⟩, hb1⟩
  have B1 := hide ((Bx.start w).add hb1 hgc hrc)
  clear hb1 hgc hrc
  go_wp2_with fail
  refine (of_any zeroCells _ zero_kinds.isImg _).mono ?_
  rintro e w2 ⟨ho, hb2⟩
  have B2 := hide ((unhide B1).call hb2)
  clear B1 hb2
  rcases ho with ⟨hz, _⟩ | ⟨_, rfl⟩
  · rw [zero_check] at hz; cases hz
  go_wp2_with fail
  refine (one_any _).mono ?_
  rintro e w3 ⟨rfl, hb3⟩
  have B3 := hide ((unhide B2).call hb3)
  clear B2 hb3
  go_wp2_with fail
  refine (of_any oneCells _ one_is _).mono ?_
  rintro e w4 ⟨ho, hb4⟩
  rcases ho with ⟨_, gd, rfl, hgd, hrd⟩ | ⟨hz, _⟩
  case inr => exact absurd one_check hz
  have B4 := hide ((unhide B3).add hb4 hgd hrd)
  clear B3 hb4 hgd hrd
  go_wp2_with fail
  refine (clean_any gc blankCells blankCells blankI blankI blank_is blank_is _ ((unhide B4).row (gc, blankCells ++ blankCells, 51) (by simp))).mono ?_
  rw [cb_clean]
  rintro e w5 ⟨rfl, hb5⟩
  have B5 := hide ((unhide B4).call hb5)
  clear B4 hb5
  go_wp2_with fail
  refine (cDirty_any gc blankCells blankCells blankI blankI blank_is blank_is _ _ ((unhide B5).row (gc, blankCells ++ blankCells, 51) (by simp))).mono ?_
  rw [cb_dirty0]
  rintro e w6 ⟨rfl, hb6⟩
  have B6 := hide ((unhide B5).call hb6)
  clear B5 hb6
  go_wp2_with fail
  refine (cInode_any gc blankCells blankCells blankI blankI blank_is blank_is _ ((unhide B6).row (gc, blankCells ++ blankCells, 51) (by simp))).mono ?_
  rw [cb_ino]
  rintro e w7 ⟨rfl, hb7⟩
  have B7 := hide ((unhide B6).call hb7)
  clear B6 hb7
  go_wp2_with fail
  refine (cSlot_any gc blankCells blankCells blankI blankI blank_is blank_is _ _ ((unhide B7).row (gc, blankCells ++ blankCells, 51) (by simp))).mono ?_
  rw [cb_slot1]
  rintro e w8 ⟨rfl, hb8⟩
  have B8 := hide ((unhide B7).call hb8)
  clear B7 hb8
  go_wp2_with fail
  refine (cData_any gc blankCells blankCells blankI blankI blank_is blank_is _ ((unhide B8).row (gc, blankCells ++ blankCells, 51) (by simp))).mono ?_
  rw [cb_data]
  rintro e w9 ⟨rfl, hb9⟩
  have B9 := hide ((unhide B8).call hb9)
  clear B8 hb9
  go_wp2_with fail
  refine (cSlot_any gc blankCells blankCells blankI blankI blank_is blank_is _ _ ((unhide B9).row (gc, blankCells ++ blankCells, 51) (by simp))).mono ?_
  rw [cb_slot3]
  rintro e w10 ⟨rfl, hb10⟩
  have B10 := hide ((unhide B9).call hb10)
  clear B9 hb10
  go_wp2_with fail
  refine (one_any _).mono ?_
  rintro e w11 ⟨rfl, hb11⟩
  have B11 := hide ((unhide B10).call hb11)
  clear B10 hb11
  have hgl := (unhide B11).hi (p := (gc, blankCells ++ blankCells, 51)) (by simp)
  have r1 := hide ((unhide B11).row (gc, blankCells ++ blankCells, 51) (by simp))
  have hM := hide (Mut.of (Below.refl _ w11) hgl (c' := oneCells ++ blankCells) rfl ((unhide B11).row (gc, blankCells ++ blankCells, 51) (by simp)))
  have B12 := hide ((unhide B11).mut1 (unhide hM))
  have hsp : splice (blankCells ++ blankCells) 0 oneCells = oneCells ++ blankCells := splice_fst z2 z1
  have hle : 0 + oneCells.size ≤ (blankCells ++ blankCells).size := by simp; omega
  clear hM B11
  go_wp2_with (first | (have hx := unhide r1; refine wpList_store_part rfl 34 _ _ rfl gc 0 oneCells rfl rfl 51 (blankCells ++ blankCells) hx (img_info size_one) hle one_all ?_; clear hx r1; rw [hsp]; generalize w11.setRow gc (oneCells ++ blankCells) = Xn at B12 ⊢))
  refine (cDirty_any gc oneCells blankCells oneI blankI one_is blank_is _ _ ((unhide B12).row (gc, oneCells ++ blankCells, 51) (by simp))).mono ?_
  rw [cb_dirty3]
  rintro e w13 ⟨rfl, hb13⟩
  have B13 := hide ((unhide B12).call hb13)
  clear B12 hb13
  go_wp2_with fail
  refine (clean_any gc oneCells blankCells oneI blankI one_is blank_is _ ((unhide B13).row (gc, oneCells ++ blankCells, 51) (by simp))).mono ?_
  rw [cb_clean2]
  rintro e w14 ⟨rfl, hb14⟩
  have B14 := hide ((unhide B13).call hb14)
  clear B13 hb14
  go_wp2_with fail
  refine (cInode_any gc oneCells blankCells oneI blankI one_is blank_is _ ((unhide B14).row (gc, oneCells ++ blankCells, 51) (by simp))).mono ?_
  rw [cb_ino2]
  rintro e w15 ⟨rfl, hb15⟩
  have B15 := hide ((unhide B14).call hb15)
  clear B14 hb15
  go_wp2_with fail
  refine (cSync_any gc oneCells blankCells oneI blankI one_is blank_is _ ((unhide B15).row (gc, oneCells ++ blankCells, 51) (by simp))).mono ?_
  rw [cb_sync]
  rintro e w16 ⟨es, rfl, he, hM⟩
  obtain rfl : es = oneCells := (he.agree one_is (Img.same_iff.1 cb_synced).symm)
  have B16 := hide ((unhide B15).mut1 hM)
  clear B15 hM he
  go_wp2_with fail
  refine (clean_any gc oneCells oneCells oneI oneI one_is one_is _ ((unhide B16).row (gc, oneCells ++ oneCells, 51) (by simp))).mono ?_
  rw [cb_clean3]
  rintro e w17 ⟨rfl, hb17⟩
  have B17 := hide ((unhide B16).call hb17)
  clear B16 hb17
  go_wp2_with fail
  refine (disk_any gc oneCells oneCells oneI oneI one_is one_is _ ((unhide B17).row (gc, oneCells ++ oneCells, 51) (by simp))).mono ?_
  rintro e w18 ⟨rfl, hb18⟩
  have B18 := hide ((unhide B17).call hb18)
  clear B17 hb18
  go_wp2_with fail
  refine (one_any _).mono ?_
  rintro e w19 ⟨rfl, hb19⟩
  have B19 := hide ((unhide B18).call hb19)
  clear B18 hb19
  go_wp2_with fail
  refine (clean_any gd oneCells oneCells oneI oneI one_is one_is _ ((unhide B19).row (gd, oneCells ++ oneCells, 51) (by simp))).mono ?_
  rw [cb_clean3]
  rintro e w20 ⟨rfl, hb20⟩
  have B20 := hide ((unhide B19).call hb20)
  clear B19 hb20
  go_wp2_with fail
  refine (cWrite_any gc oneCells oneCells oneI oneI one_is one_is _ _ ((unhide B20).row (gc, oneCells ++ oneCells, 51) (by simp))).mono ?_
  rw [cb_out]
  rintro e w21 ⟨es, rfl, he, hM⟩
  have B21 := hide ((unhide B20).mut1 hM)
  clear B20 hM he
  go_wp2_with fail
  go_ret
  exact ⟨rfl, (unhide B21).below⟩
end Go.Proofs.Ytgipceeheohafab
