/-
  The law TextApart. (Written by genkk.py.)
-/
import Derived.Test.YtlbgkpibaahgladDoorQKg
import Derived.Test.YtlbgkpibaahgladDoorQKj
import Derived.Test.YtlbgkpibaahgladDoorQKl
import Derived.Test.YtlbgkpibaahgladDoorKb
import Derived.Test.YtlbgkpibaahgladDoorQTh
import Derived.Test.YtlbgkpibaahgladDoorQCk1
set_option linter.unusedVariables false
namespace Go.Proofs.YtlbgkpibaahgladDoor
open Go.RowKit
theorem Boxes.args8 (w : World) (a b : Array Value) : Boxes w ((w.alloc (.cells a 34)).alloc (.cells b 34)) [(w.heap.size + 1, b), (w.heap.size, a)] := by
  have h := ((Boxes.start w).box a).box b
  have e : (w.alloc (.cells a 34)).heap.size = w.heap.size + 1 := by simp
  rw [e] at h
  exact h
theorem img_row94 {cs : Array Value} {m : Img} (h : IsImg cs m) : cs.extract 0 (0 + 94) = cs := by
  rw [Nat.zero_add, ← h.size]; simp
theorem ck_eql {P : Program} {o : Oper} {ρ : Operand → Value} (ty tz : TypeId) (x y : Operand) (ho : o.op = .binOp .eql ty x y tz) (cs ds : Array Value) (hx : ρ x = .agg cs) (hy : ρ y = .agg ds) (v : Bool)
    (hm : P.eqGuardType P.depth ty = false) (hq : ∀ w, (binOp .eql ty (.agg cs) (.agg ds)).run P w = .ok (.bool v) w) (w : World) : (execOp ρ o).run P w = .ok (.value (.bool v)) w := by
  unfold execOp
  rw [ho]
  go_simp
theorem eq_str {o : Oper} {ρ : Operand → Value} (x y : Operand) (ho : o.op = .binOp .eql 9 x y 9) {a b : List UInt8} (hx : ρ x = .string ⟨a.toArray⟩) (hy : ρ y = .string ⟨b.toArray⟩) {v : Bool} (hv : (a == b) = v) (w : World) : (execOp ρ o).run Tryd.prog w = .ok (.value (.bool v)) w := by
  unfold execOp
  rw [ho]
  go_simp
theorem eq_bool {o : Oper} {ρ : Operand → Value} (x y : Operand) (ho : o.op = .binOp .eql 4 x y 4) {a b : Bool} (hx : ρ x = .bool a) (hy : ρ y = .bool b) {v : Bool} (hv : (a == b) = v) (w : World) : (execOp ρ o).run Tryd.prog w = .ok (.value (.bool v)) w := by
  unfold execOp
  rw [ho]
  go_simp
theorem Nums.fine {m : Img} (h : Nums m) (s : Short m) : Fine m := ⟨h.stamp, h.links, h.part, h.ino, h.est, h.of, fun d s' hd hs => by have := s.name d s' hd hs; omega, fun x hx => by have := s.text x hx; omega⟩
theorem chk_beq {m : Img} {e : Ending} (h : FaultEq m e) : e = .returned (.int .i64 m.check) := h
set_option maxHeartbeats 2000000 in
set_option maxRecDepth 100000 in
theorem textApart_any (cs ds : Array Value) (hk : Kinds cs) (hl : Kinds ds) (nm : Nums (imgOf cs)) (nn : Nums (imgOf ds)) (w : World) (tb : Tab w) :
    Calls Tryd.prog 3 #[.agg cs, .agg ds] w fun e w' => e = .returned (.bool true) ∧ Below w.heap.size w w' := by
  have hi := hk.isImg
  have hj := hl.isImg
  have B0 := hide (Boxes.args8 w cs ds)
  have TB := hide tb
  have TL := hide (tab_lt tb)
  have NM := hide nm
  have NN := hide nn
  clear tb nm nn
  have TX := hide (fun V (hb : Below w.heap.size w V) => show Tab V from tab_block (unhide TB) (hb.block 1 (unhide TL)))
  go_enter Tryd.func3, Tryd.ntmps3
  go_wp2_with fail
  generalize (w.alloc (.cells cs 34)).alloc (.cells ds 34) = X0 at B0 ⊢
  generalize w.heap.size + 1 = gd at B0 ⊢
  refine (textBegun_any _ (unhide TX _ (unhide B0).below)).mono ?_
  rintro e w1 ⟨rfl, hb1⟩
  have B1 := hide ((unhide B0).call hb1)
  clear B0 hb1
  have r1 := hide ((unhide B1).row (w.heap.size, cs) (by simp))
  go_wp2_with (have hx := unhide r1; refine wpList_load_row rfl 34 _ rfl w.heap.size rfl 34 cs (0, 0) _ hx img_under rfl (img_info hi.size) ?_; clear hx r1)
  refine (great8_any cs _ hi _).mono ?_
  rintro e w2 ⟨⟨v, rfl, s1⟩, hb2⟩
  have B2 := hide ((unhide B1).call hb2)
  have S1 := hide s1
  clear B1 hb2 s1
  cases v
  case true =>
    go_wp2_with fail
    go_ret
    exact ⟨rfl, (unhide B2).below⟩
  have FM := hide ((unhide NM).fine (unhide S1 rfl))
  clear S1 NM
  have r2 := hide ((unhide B2).row (gd, ds) (by simp))
  go_wp2_with (have hx := unhide r2; refine wpList_load_row_g rfl 34 _ rfl gd rfl 34 ds (0, 0) _ hx img_under rfl (img_info hj.size) ?_; clear hx r2)
  refine (great8_any ds _ hj _).mono ?_
  rintro e w3 ⟨⟨v, rfl, s2⟩, hb3⟩
  have B3 := hide ((unhide B2).call hb3)
  have S2 := hide s2
  clear B2 hb3 s2
  cases v
  case true =>
    go_wp2_with fail
    go_ret
    exact ⟨rfl, (unhide B3).below⟩
  have FN := hide ((unhide NN).fine (unhide S2 rfl))
  clear S2 NN
  have C1 := hide (faultEq_any w.heap.size (imgOf cs) w3 ((unhide B3).has (g := w.heap.size) (by simp) hi))
  go_wp2_with fail
  refine (unhide C1).mono ?_
  rintro e w4 ⟨he, hb4⟩
  have B4 := hide ((unhide B3).call hb4)
  obtain rfl := chk_beq he
  clear B3 hb4 C1 he
  by_cases hc1 : (imgOf cs).check = 0
  case neg =>
    have q1 : ((imgOf cs).check == 0) = false := by simpa using hc1
    have q2 : ((imgOf cs).check != 0) = true := by simpa using hc1
    generalize (imgOf cs).check = c1 at q1 q2 hc1 ⊢
    go_wp2_with fail
    go_ret
    exact ⟨rfl, (unhide B4).below⟩
  have K1 := hide hc1
  rw [hc1]
  clear hc1
  have C2 := hide (faultEq_any gd (imgOf ds) w4 ((unhide B4).has (g := gd) (by simp) hj))
  go_wp2_with fail
  refine (unhide C2).mono ?_
  rintro e w5 ⟨he, hb5⟩
  have B5 := hide ((unhide B4).call hb5)
  obtain rfl := chk_beq he
  clear B4 hb5 C2 he
  by_cases hc2 : (imgOf ds).check = 0
  case neg =>
    have q1 : ((imgOf ds).check == 0) = false := by simpa using hc2
    have q2 : ((imgOf ds).check != 0) = true := by simpa using hc2
    generalize (imgOf ds).check = c1 at q1 q2 hc2 ⊢
    go_wp2_with fail
    go_ret
    exact ⟨rfl, (unhide B5).below⟩
  have K2 := hide hc2
  rw [hc2]
  clear hc2
  have H1 := hide ((unhide B5).has (g := w.heap.size) (by simp) hi)
  have H2 := hide ((unhide B5).has (g := gd) (by simp) hj)
  go_wp2_with fail
  go_loopw [5] (fun i wr => ∃ k : Nat, k ≤ 9 ∧ i = .int .i64 k ∧ wr = w5 ∧ Hid (∀ x, x < k → ((imgOf cs).of x = 0 → ((imgOf cs).text x).toList = []) ∧ ((imgOf ds).of x = 0 → ((imgOf ds).text x).toList = []))) (fun i _ => 9 - (intOf i).toNat)
  case atStart => exact ⟨0, Nat.zero_le _, rfl, rfl, hide fun x hx => by omega⟩
  case round =>
    obtain ⟨x, hx, rfl, rfl, HT⟩ := hrel
    by_cases hlx : x < 9
    case pos =>
      have jx : (x : Int) < 9 := by omega
      have tx : decide ((x : Int) < 9) = true := by simp; omega
      have e0 := (unhide H1).of x hlx
      have e1 := (unhide H1).text x hlx
      have f0 := (unhide H2).of x hlx
      have f1 := (unhide H2).text x hlx
      have NX := hide (fun (h1 : (imgOf cs).of x = 0 → ((imgOf cs).text x).toList = []) (h2 : (imgOf ds).of x = 0 → ((imgOf ds).text x).toList = []) => show ∀ y, y < x + 1 → ((imgOf cs).of y = 0 → ((imgOf cs).text y).toList = []) ∧ ((imgOf ds).of y = 0 → ((imgOf ds).text y).toList = []) from fun y hy => by
        by_cases e : y = x
        · subst e; exact ⟨h1, h2⟩
        · exact unhide HT y (by omega))
      generalize (imgOf cs).of x = om at e0 NX
      generalize (imgOf cs).text x = tm at e1 NX
      generalize (imgOf ds).of x = on at f0 NX
      generalize (imgOf ds).text x = tn at f1 NX
      clear HT
      by_cases o1 : om = 0
      case pos =>
        subst o1
        cases en : tm.toList.isEmpty
        case false =>
          go_wp2_with fail
          go_ret
          exact ⟨rfl, (unhide B5).below⟩
        case true =>
          have y1 := hide (show (0 : Int) = 0 → tm.toList = [] from fun _ => List.isEmpty_iff.1 en)
          by_cases o2 : on = 0
          case pos =>
            subst o2
            cases em : tn.toList.isEmpty
            case false =>
              go_wp2_with fail
              go_ret
              exact ⟨rfl, (unhide B5).below⟩
            case true =>
              have N2 := hide (unhide NX (unhide y1) (fun _ => List.isEmpty_iff.1 em))
              clear NX
              go_wp2_with fail
              go_roundw
              case rel => exact ⟨x + 1, by omega, by go_num, by first | rfl | trivial, N2⟩
              case measure => simp [intOf]; omega
          case neg =>
            have q2 : (on == 0) = false := by simpa using o2
            have N2 := hide (unhide NX (unhide y1) (fun z => absurd z o2))
            clear NX o2
            go_wp2_with fail
            go_roundw
            case rel => exact ⟨x + 1, by omega, by go_num, by first | rfl | trivial, N2⟩
            case measure => simp [intOf]; omega
      case neg =>
        have q1 : (om == 0) = false := by simpa using o1
        have y1 := hide (show om = 0 → tm.toList = [] from fun z => absurd z o1)
        clear o1
        by_cases o2 : on = 0
        case pos =>
          subst o2
          cases em : tn.toList.isEmpty
          case false =>
            go_wp2_with fail
            go_ret
            exact ⟨rfl, (unhide B5).below⟩
          case true =>
            have N2 := hide (unhide NX (unhide y1) (fun _ => List.isEmpty_iff.1 em))
            clear NX
            go_wp2_with fail
            go_roundw
            case rel => exact ⟨x + 1, by omega, by go_num, by first | rfl | trivial, N2⟩
            case measure => simp [intOf]; omega
        case neg =>
          have q2 : (on == 0) = false := by simpa using o2
          have N2 := hide (unhide NX (unhide y1) (fun z => absurd z o2))
          clear NX o2
          go_wp2_with fail
          go_roundw
          case rel => exact ⟨x + 1, by omega, by go_num, by first | rfl | trivial, N2⟩
          case measure => simp [intOf]; omega
    case neg =>
      have e9 : x = 9 := by omega
      subst e9
      obtain ⟨vb, hvb⟩ : ∃ b : Bool, b = Img.sameImg (imgOf cs) (imgOf ds) := ⟨_, rfl⟩
      have EQ := hide (show (Txt.printed (imgOf cs) == Txt.printed (imgOf ds)) = vb by
        rw [hvb, Bool.eq_iff_iff, beq_iff_eq, Img.same_iff]
        exact ⟨fun h => Txt.printed_apart (unhide K1) (unhide K2) (fun x hx => (unhide HT x hx).1) (fun x hx => (unhide HT x hx).2) h, Txt.printed_same⟩)
      have EI := hide (fun W => show (binOp .eql 34 (.agg cs) (.agg ds)).run Tryd.prog W = .ok (.bool vb) W by rw [hvb]; exact eqlImg hi hj W)
      clear HT hvb H1 H2 hlx
      go_upto_region 10 with fail
      have P1 := hide (Print_any w.heap.size (imgOf cs) wr.drew ((unhide B5).call (Below.refl _ wr).drew |>.has (g := w.heap.size) (by simp) hi) (unhide FM) (unhide TX _ ((unhide B5).call (Below.refl _ wr).drew).below))
      have hS0 : wr.drew.heap[w.heap.size]? = some (.cells cs 34) ∧ wr.drew.heap[gd]? = some (.cells ds 34) := ⟨(unhide B5).row (w.heap.size, cs) (by simp), (unhide B5).row (gd, ds) (by simp)⟩
      have B6 := hide ((unhide B5).call (Below.refl _ wr).drew)
      refine wp_region_held_drew (S := fun V => V.heap[w.heap.size]? = some (.cells cs 34) ∧ V.heap[gd]? = some (.cells ds 34)) (by kernel_rfl) (hS0) (fun hS => ?_)
      refine wpAnyH_take (i := 3) (oi := { dst := some 59, op := Op.load 34 (Operand.tmp 2), type := 34, pos := "law08.go:67", after := #[], guard := none }) (v := .agg cs) rfl (by kernel_rfl) (by kernel_rfl) (by kernel_rfl) (fun _ _ _ h => h) (Or.inl ⟨by kernel_rfl, fun W h => ck_load_part 34 (.tmp 2) (by kernel_rfl) (w.heap.size) 0 94 (by kernel_rfl) W 34 cs cs _ h.1 img_under rfl zero_img.2 (by rw [hi.size]; omega) (img_row94 hi)⟩) hS0 ?_
      try simp only [Act.put, List.setIfInBounds_toArray, List.set_cons_zero, List.set_cons_succ]
      refine wpAnyH_take (i := 4) (oi := { dst := some 60, op := Op.load 34 (Operand.tmp 3), type := 34, pos := "law08.go:67", after := #[], guard := none }) (v := .agg ds) rfl (by kernel_rfl) (by kernel_rfl) (by kernel_rfl) (fun _ _ _ h => h) (Or.inl ⟨by kernel_rfl, fun W h => ck_load_part 34 (.tmp 3) (by kernel_rfl) (gd) 0 94 (by kernel_rfl) W 34 ds ds _ h.2 img_under rfl zero_img.2 (by rw [hj.size]; omega) (img_row94 hj)⟩) hS0 ?_
      try simp only [Act.put, List.setIfInBounds_toArray, List.set_cons_zero, List.set_cons_succ]
      refine wpAnyH_take (i := 5) (oi := { dst := some 61, op := Op.binOp BinOp.eql 34 (Operand.tmp 59) (Operand.tmp 60) 34, type := 4, pos := "law08.go:67", after := #[{ on := 3, ground := Ground.data }, { on := 4, ground := Ground.data }], guard := none }) (v := .bool vb) rfl (by kernel_rfl) (by kernel_rfl) (by kernel_rfl) (fun _ _ _ h => h) (Or.inl ⟨by kernel_rfl, fun W h => ck_eql 34 34 (.tmp 59) (.tmp 60) (by kernel_rfl) cs ds (by kernel_rfl) (by kernel_rfl) vb (by kernel_rfl) (unhide EI) W⟩) hS0 ?_
      try simp only [Act.put, List.setIfInBounds_toArray, List.set_cons_zero, List.set_cons_succ]
      refine wpAnyH_ready (rs := [0]) (by kernel_rfl) (by simp) ?_
      refine AllReadyH.cons (o := { dst := some 56, op := Op.call { callee := Callee.value (Operand.func 7), args := #[Operand.tmp 2], argTypes := #[38] }, type := 9, pos := "law08.go:67", after := #[], guard := none }) rfl (fun K hK => ?_) AllReadyH.nil
      rw [if_pos (by kernel_rfl)]
      go_simp
      refine (unhide P1).mono ?_
      rintro e w6 ⟨rfl, b6⟩
      have B7 := hide ((unhide B6).call b6)
      have hS1 : w6.heap[w.heap.size]? = some (.cells cs 34) ∧ w6.heap[gd]? = some (.cells ds 34) := ⟨(unhide B7).row (w.heap.size, cs) (by simp), (unhide B7).row (gd, ds) (by simp)⟩
      have P2 := hide (Print_any gd (imgOf ds) w6 ((unhide B7).has (g := gd) (by simp) hj) (unhide FN) (unhide TX _ (unhide B7).below))
      clear b6
      go_wp2_with fail
      refine hK.out _ _ (hS1) (fun _ => ?_)
      clear hK K
      try simp only [Act.put, List.setIfInBounds_toArray, List.set_cons_zero, List.set_cons_succ]
      refine wpAnyH_ready (rs := [1]) (by kernel_rfl) (by simp) ?_
      refine AllReadyH.cons (o := { dst := some 57, op := Op.call { callee := Callee.value (Operand.func 7), args := #[Operand.tmp 3], argTypes := #[38] }, type := 9, pos := "law08.go:67", after := #[{ on := 0, ground := Ground.chain }], guard := none }) rfl (fun K hK => ?_) AllReadyH.nil
      rw [if_pos (by kernel_rfl)]
      go_simp
      refine (unhide P2).mono ?_
      rintro e w7 ⟨rfl, b7⟩
      have B8 := hide ((unhide B7).call b7)
      have hS2 : w7.heap[w.heap.size]? = some (.cells cs 34) ∧ w7.heap[gd]? = some (.cells ds 34) := ⟨(unhide B8).row (w.heap.size, cs) (by simp), (unhide B8).row (gd, ds) (by simp)⟩
      clear b7
      go_wp2_with fail
      refine hK.out _ _ (hS2) (fun _ => ?_)
      clear hK K
      try simp only [Act.put, List.setIfInBounds_toArray, List.set_cons_zero, List.set_cons_succ]
      refine wpAnyH_take (i := 2) (oi := { dst := some 58, op := Op.binOp BinOp.eql 9 (Operand.tmp 56) (Operand.tmp 57) 9, type := 4, pos := "law08.go:67", after := #[{ on := 0, ground := Ground.data }, { on := 1, ground := Ground.data }], guard := none }) (v := .bool vb) rfl (by kernel_rfl) (by kernel_rfl) (by kernel_rfl) (fun _ _ _ h => h) (Or.inl ⟨by kernel_rfl, fun W h => eq_str (.tmp 56) (.tmp 57) (by kernel_rfl) (by kernel_rfl) (by kernel_rfl) (unhide EQ) W⟩) hS2 ?_
      try simp only [Act.put, List.setIfInBounds_toArray, List.set_cons_zero, List.set_cons_succ]
      refine wpAnyH_take (i := 6) (oi := { dst := some 62, op := Op.binOp BinOp.eql 4 (Operand.tmp 58) (Operand.tmp 61) 4, type := 4, pos := "law08.go:67", after := #[{ on := 2, ground := Ground.data }, { on := 5, ground := Ground.data }], guard := none }) (v := .bool true) rfl (by kernel_rfl) (by kernel_rfl) (by kernel_rfl) (fun _ _ _ h => h) (Or.inl ⟨by kernel_rfl, fun W h => eq_bool (a := vb) (b := vb) (.tmp 58) (.tmp 61) (by kernel_rfl) (by kernel_rfl) (by kernel_rfl) (by cases vb <;> rfl) W⟩) hS2 ?_
      try simp only [Act.put, List.setIfInBounds_toArray, List.set_cons_zero, List.set_cons_succ]
      refine wpAnyH_take (i := 7) (oi := { dst := some 4, op := Op.assign (Operand.tmp 62), type := 4, pos := "law08.go:67", after := #[{ on := 6, ground := Ground.data }, { on := 1, ground := Ground.chain }, { on := 0, ground := Ground.phase }, { on := 1, ground := Ground.phase }, { on := 2, ground := Ground.phase }, { on := 3, ground := Ground.phase }, { on := 4, ground := Ground.phase }, { on := 5, ground := Ground.phase }, { on := 6, ground := Ground.phase }], guard := none }) (v := .bool true) rfl (by kernel_rfl) (by kernel_rfl) (by kernel_rfl) (fun _ _ _ h => h) (Or.inl ⟨by kernel_rfl, fun W h => (by first | kernel_rfl | go_simp)⟩) hS2 ?_
      try simp only [Act.put, List.setIfInBounds_toArray, List.set_cons_zero, List.set_cons_succ]
      refine wpAnyH_done (by kernel_rfl) ?_ _
      clear hS
      go_wp2_with fail
      go_ret
      exact ⟨rfl, (unhide B8).below⟩
end Go.Proofs.YtlbgkpibaahgladDoor
