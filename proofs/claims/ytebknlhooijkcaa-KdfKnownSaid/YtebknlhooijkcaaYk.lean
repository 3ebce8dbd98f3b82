/- The laws' works: contract. No condition. -/
import Derived.Test.YtebknlhooijkcaaYl
import Derived.Test.YtebknlhooijkcaaPo
namespace Go.Proofs.Ytebknlhooijkcaa
set_option linter.unusedSimpArgs false
set_option linter.unusedVariables false
open Go.ChangeShapes Go.WideShapes Go.ChangeAt Go.RowKit


def wL1 : List Int := List.replicate 64 54 ++ [0]
def wL2 : List Int := List.replicate 64 92
theorem wL1_get (i : Nat) (h : i < 64) : wL1[i]? = some 54 := by
  rw [wL1, List.getElem?_append_left (by rw [List.length_replicate]; exact h), List.getElem?_replicate, if_pos h]
theorem wL2_get (i : Nat) (h : i < 64) : wL2[i]? = some 92 := by rw [wL2, List.getElem?_replicate, if_pos h]
theorem wL1_fil : fil wL1 64 0 = wL1 := by decide +kernel
theorem wL2_fil : fil wL2 64 0 = wL2 := by decide +kernel
theorem wL1_set : (wL1.set 0 49).set 64 9 = winn := by decide +kernel
theorem wL2_set : wL2.set 0 91 = wout := by decide +kernel
theorem wL1_64 : (wL1.set 0 49)[64]? = some 0 := by decide +kernel
theorem run_app2 {o : Oper} {a : Act} {w w' : World} {v x r : Value} (s y : Operand) (ho : o.op = .call { callee := .builtin .append, args := #[s, y], argTypes := #[22, 22] }) (hs : a.eval s = v) (hy : a.eval y = x) (h : (Builtin.append_ #[22, 22] 22 #[v, x]).run Try.prog w = .ok r w') (ht : o.type = 22 := by rfl) : (execOp a.eval o).run Try.prog w = .ok (.value r) w' := by
  unfold execOp
  simp only [ho, resolve, invoke, builtin, Sem.run_bind, Sem.run_pure, Result.andThen_ok, List.map_toArray, List.map_cons, List.map_nil, hs, hy, ht, h]
theorem seven_bys : Bys [7] := fun b hb => by simp at hb; omega
theorem nine_bys : Bys [9] := fun b hb => by simp at hb; omega
theorem winn_bys : Bys winn := by rw [winn_is]; exact (xb_bys (by decide) (kb_bys seven_bys)).append nine_bys
theorem wout_bys : Bys wout := by rw [wout_is]; exact xb_bys (by decide) (kb_bys seven_bys)
set_option maxRecDepth 100000 in
set_option maxHeartbeats 16000000 in
theorem works_is (w : World) : Calls Try.prog 15 #[] w fun e w' => e = .returned (.bool true) ∧ Fr (fun _ => False) w w' := by
  obtain ⟨D, hD⟩ : ∃ D, D = dig 32 [] winn := ⟨_, rfl⟩
  have lD : Hid (D.length = 32 ∧ Bys D) := by rw [hD]; exact ⟨dig_length (by decide) _ _, dig_bys _ _ _⟩
  obtain ⟨R, hR⟩ : ∃ R, R = hm [7] [9] := ⟨_, rfl⟩
  have lR : Hid (R.length = 32) := by show _ = _; rw [hR]; exact hm_length _ _
  have HRD : dig 32 [] (wout ++ D) = R := by rw [hR, hm, wout_is, hD, winn_is]
  have RZ : Hid (R ≠ List.replicate 32 0) := by show _ ≠ _; rw [hR]; exact wtag_ne
  obtain ⟨L1, hL1⟩ : ∃ L, L = wL1 := ⟨_, rfl⟩
  obtain ⟨L2, hL2⟩ : ∃ L, L = wL2 := ⟨_, rfl⟩
  obtain ⟨I, hI⟩ : ∃ L, L = winn := ⟨_, rfl⟩
  obtain ⟨O, hO⟩ : ∃ L, L = wout := ⟨_, rfl⟩
  have G1 : Hid (∀ i, i < 64 → L1[i]? = some 54) := by rw [hL1]; exact wL1_get
  have G2 : Hid (∀ i, i < 64 → L2[i]? = some 92) := by rw [hL2]; exact wL2_get
  have E1 : Hid (fil L1 64 0 = L1 ∧ (L1.set 0 49).set 64 9 = I ∧ (L1.set 0 49)[64]? = some 0 ∧ L1.length = 65) := by rw [hL1, hI]; exact ⟨wL1_fil, wL1_set, wL1_64, rfl⟩
  have E2 : Hid (fil L2 64 0 = L2 ∧ L2.set 0 91 = O ∧ L2.length = 64) := by rw [hL2, hO]; exact ⟨wL2_fil, wL2_set, rfl⟩
  have lI : Hid (I.length = 65 ∧ Bys I) := by rw [hI]; exact ⟨rfl, winn_bys⟩
  have lO : Hid (O.length = 64 ∧ Bys O) := by rw [hO]; exact ⟨rfl, wout_bys⟩
  have CS1 : ∀ W g, Sl W g (.slice (some ⟨g, 0, none⟩) 65 65) I → Calls Try.prog 29 #[.slice (some ⟨g, 0, none⟩) 65 65] W fun e w' => e = .returned (.agg (vs .u8 D)) ∧ Fr (fun _ => False) W w' := fun W g h => by rw [hD, ← hI]; exact sum_is g _ 65 65 I W h (by decide)
  have CS2 : ∀ W v, Ow W v (O ++ D) → Calls Try.prog 29 #[v] W fun e w' => e = .returned (.agg (vs .u8 R)) ∧ Fr (fun _ => False) W w' := fun W v h => by
    obtain ⟨A, n, c, rfl, hn⟩ := h.shape
    rw [← HRD, ← hO]
    exact sum_is _ A n c (O ++ D) W h.sl (by rw [hn, List.length_append, lO.out.1, lD.out.1]; decide)
  have CH : ∀ W g1 g2, Sl W g1 (.slice (some ⟨g1, 0, none⟩) 1 1) [7] → Sl W g2 (.slice (some ⟨g2, 0, none⟩) 1 1) [9] → Calls Try.prog 12 #[.slice (some ⟨g1, 0, none⟩) 1 1, .slice (some ⟨g2, 0, none⟩) 1 1] W fun e w' => e = .returned (.agg (vs .u8 R)) ∧ Fr (fun _ => False) W w' := fun W g1 g2 h1 h2 => by
    rw [hR]
    exact khmac_is g1 _ 1 1 [7] g2 _ 1 1 [9] W h1 (by decide) h2 (by decide)
  obtain ⟨Z65, hZ65⟩ : ∃ Z, Z = List.replicate 65 (0 : Int) := ⟨_, rfl⟩
  obtain ⟨Z64, hZ64⟩ : ∃ Z, Z = List.replicate 64 (0 : Int) := ⟨_, rfl⟩
  have F1 : Hid (Z65 = fil L1 0 0) := by show _ = _; rw [fil_zero, E1.out.2.2.2, hZ65]
  have F2 : Hid (Z64 = fil L2 0 0) := by show _ = _; rw [fil_zero, E2.out.2.2, hZ64]
  have HZ65 := Lib.hid hZ65
  have HZ64 := Lib.hid hZ64
  obtain ⟨Z, hZ⟩ : ∃ Z, Z = List.replicate 32 (0 : Int) := ⟨_, rfl⟩
  have hz : ∀ W : World, (zeroValue 24).run Try.prog W = .ok (.agg (vs .u8 Z)) W := fun W => by rw [hZ]; exact zeroA32 W
  have sD : Hid ((Try.prog.info? 24).map (·.size) = some (vs .u8 D).size) := by show _ = _; rw [szA32, vs_size, lD.out.1]
  have eD : Hid ((vs .u8 Z).size = (vs .u8 D).size) := by show _ = _; rw [vs_size, vs_size, lD.out.1, hZ]; rfl
  have sR : Hid ((Try.prog.info? 24).map (·.size) = some (vs .u8 R).size) := by show _ = _; rw [szA32, vs_size, lR.out]
  have eR : Hid ((vs .u8 Z).size = (vs .u8 R).size) := by show _ = _; rw [vs_size, vs_size, lR.out, hZ]; rfl
  have HNE : ∀ W, (Op.equalIn 10000 24 (.agg (vs .u8 R)) (.agg (vs .u8 Z))).run Try.prog W = .ok false W := fun W => (eq32 R Z lR.out (by rw [hZ]; rfl) W).trans (by rw [decide_eq_false (by rw [hZ]; exact RZ.out)])
  have HEQ : ∀ W, (Op.equalIn 10000 24 (.agg (vs .u8 R)) (.agg (vs .u8 R))).run Try.prog W = .ok true W := fun W => (eq32 R R lR.out lR.out W).trans (by rw [decide_eq_true rfl])
  have UZ : Unit → Z = List.replicate 32 (0 : Int) := fun _ => hZ
  clear hD hR HRD RZ hL1 hL2 hI hO hZ65 hZ64 hZ
  go_enter Try.func15, Try.ntmps15
  go_upto_region 1 with (fail)
  refine wp_region_inv2 (fun b a w' => ∃ ga : Nat, ∃ gb : Nat, Fr (fun _ => False) w w' ∧ (b 0 = true → w.heap.size ≤ ga ∧ Ar w' ga 5 .u8 Z65) ∧ (b 1 = true → w.heap.size ≤ gb ∧ Ar w' gb 5 .u8 Z64) ∧ (b 0 = true → b 1 = true → ga ≠ gb) ∧ a = ⟨#[.bool false, if b 2 = true then .slice (some ⟨ga, 0, none⟩) 65 65 else undef, if b 3 = true then .slice (some ⟨gb, 0, none⟩) 64 64 else undef, undef, undef, undef, if b 0 = true then .slice (some ⟨ga, 0, none⟩) 65 65 else undef, if b 1 = true then .slice (some ⟨gb, 0, none⟩) 64 64 else undef, undef, undef, undef, undef, undef, undef, undef, undef, undef, undef, undef, undef, undef, undef, undef, undef, undef, undef, undef, undef, undef, undef, undef, undef, undef, undef, undef, undef, undef, undef, undef, undef], []⟩) (by kernel_rfl) (by kernel_rfl) ?start1 ?step1 ?done1
  case start1 => exact ⟨0, 0, ⟨rfl, rfl, rfl, Nat.le_refl _, fun _ _ _ => rfl⟩, fun h => by simp at h, fun h => by simp at h, fun h => by simp at h, by simp⟩
  case step1 =>
    intro i5 o5 b a w1 ho hI hb hr hcl
    obtain ⟨ga, gb, hF, h0, h1, p0_1, rfl⟩ := hI
    match i5, ho with
    | 0, ho =>
      injection ho with ho
      subst ho
      have n2 : b 2 = false := by
        rcases hbs : b 2 with _ | _
        · rfl
        · rw [chain hcl 2 0 rfl hbs (by simp [Region.binds])] at hb
          cases hb
      obtain ⟨gN, hgN⟩ : ∃ g, g = w1.heap.size := ⟨_, rfl⟩
      refine wp_value (.slice (some ⟨gN, 0, none⟩) 65 65) (w1.alloc (.cells (vs .u8 Z65) 5)) (by rw [hgN, HZ65.out]; exact ms_run (n := 65) (by decide) rfl rfl rfl) ?_
      have hge : w1.heap.size ≤ gN := by rw [hgN]; exact Nat.le_refl _
      have hfN : Fr (fun _ => False) w1 (w1.alloc (.cells (vs .u8 Z65) 5)) := (Fr.refl _ _).alloc _
      have hfact : w.heap.size ≤ gN ∧ Ar (w1.alloc (.cells (vs .u8 Z65) 5)) gN 5 .u8 Z65 := by rw [hgN]; exact ⟨hF.size, Ar.new w1 5 .u8 Z65⟩
      refine ⟨gN, gb, hF.trans hfN, ?_, ?_, ?_, ?_⟩
      · exact fun _ => hfact
      · intro hx
        have hy := h1 (by simpa [upd] using hx)
        exact ⟨hy.1, hy.2.fr hfN (fun x => x)⟩
      · intro _ hy
        have := (h1 (by simpa [upd] using hy)).2.lt
        omega
      · simp [upd, Act.put, n2]
    | 1, ho =>
      injection ho with ho
      subst ho
      have n3 : b 3 = false := by
        rcases hbs : b 3 with _ | _
        · rfl
        · rw [chain hcl 3 1 rfl hbs (by simp [Region.binds])] at hb
          cases hb
      obtain ⟨gN, hgN⟩ : ∃ g, g = w1.heap.size := ⟨_, rfl⟩
      refine wp_value (.slice (some ⟨gN, 0, none⟩) 64 64) (w1.alloc (.cells (vs .u8 Z64) 5)) (by rw [hgN, HZ64.out]; exact ms_run (n := 64) (by decide) rfl rfl rfl) ?_
      have hge : w1.heap.size ≤ gN := by rw [hgN]; exact Nat.le_refl _
      have hfN : Fr (fun _ => False) w1 (w1.alloc (.cells (vs .u8 Z64) 5)) := (Fr.refl _ _).alloc _
      have hfact : w.heap.size ≤ gN ∧ Ar (w1.alloc (.cells (vs .u8 Z64) 5)) gN 5 .u8 Z64 := by rw [hgN]; exact ⟨hF.size, Ar.new w1 5 .u8 Z64⟩
      refine ⟨ga, gN, hF.trans hfN, ?_, ?_, ?_, ?_⟩
      · intro hx
        have hy := h0 (by simpa [upd] using hx)
        exact ⟨hy.1, hy.2.fr hfN (fun x => x)⟩
      · exact fun _ => hfact
      · intro hx _
        have := (h0 (by simpa [upd] using hx)).2.lt
        omega
      · simp [upd, Act.put, n3]
    | 2, ho =>
      injection ho with ho
      subst ho
      simp [Region.binds] at hr
      have d0 : b 0 = true := by simp only [hr]
      simp only [hr, if_true]
      refine wp_quiet_here (.slice (some ⟨ga, 0, none⟩) 65 65) (BigFrame.quiet_assign _ rfl rfl) (fun w2 hw2 => ?_)
      refine ⟨ga, gb, hF.trans hw2, ?_, ?_, ?_, ?_⟩
      · intro hx
        have hy := h0 (by simpa [upd] using hx)
        exact ⟨hy.1, hy.2.fr hw2 (fun x => x)⟩
      · intro hx
        have hy := h1 (by simpa [upd] using hx)
        exact ⟨hy.1, hy.2.fr hw2 (fun x => x)⟩
      · intro hx hy
        exact p0_1 (by simpa [upd] using hx) (by simpa [upd] using hy)
      · simp [upd, Act.put, hr]
    | 3, ho =>
      injection ho with ho
      subst ho
      simp [Region.binds] at hr
      have d0 : b 0 = true := by simp only [hr]
      have d1 : b 1 = true := by simp only [hr]
      have d2 : b 2 = true := by simp only [hr]
      simp only [hr, if_true]
      refine wp_quiet_here (.slice (some ⟨gb, 0, none⟩) 64 64) (BigFrame.quiet_assign _ rfl rfl) (fun w2 hw2 => ?_)
      refine ⟨ga, gb, hF.trans hw2, ?_, ?_, ?_, ?_⟩
      · intro hx
        have hy := h0 (by simpa [upd] using hx)
        exact ⟨hy.1, hy.2.fr hw2 (fun x => x)⟩
      · intro hx
        have hy := h1 (by simpa [upd] using hx)
        exact ⟨hy.1, hy.2.fr hw2 (fun x => x)⟩
      · intro hx hy
        exact p0_1 (by simpa [upd] using hx) (by simpa [upd] using hy)
      · simp [upd, Act.put, hr]
    | j + 4, ho => exact absurd ho (by simp)
  intro b a w9 hall hI
  obtain ⟨ga, gb, hF, h0, h1, p0_1, rfl⟩ := hI
  have t0 : b 0 = true := hall 0 (by simp)
  have t1 : b 1 = true := hall 1 (by simp)
  have t2 : b 2 = true := hall 2 (by simp)
  have t3 : b 3 = true := hall 3 (by simp)
  simp only [t0, t1, t2, t3, if_true]
  have Pga := Lib.hid (h0 t0)
  have Pgb := Lib.hid (h1 t1)
  have N0_1 := Lib.hid (p0_1 t0 t1)
  have G9 := Lib.hid hF
  clear hall hF h0 h1 p0_1 t0 t1 t2 t3
  have NG : Hid (w.heap.size ≤ ga ∧ w.heap.size ≤ gb ∧ ga ≠ gb) := ⟨Pga.out.1, Pgb.out.1, N0_1.out⟩
  have A9 : Hid (Ar w9 ga 5 .u8 (fil L1 0 0)) := by show Ar _ _ _ _ _; rw [← F1.out]; exact Pga.out.2
  have B9 : Hid (Ar w9 gb 5 .u8 (fil L2 0 0)) := by show Ar _ _ _ _ _; rw [← F2.out]; exact Pgb.out.2
  clear Pga Pgb N0_1 F1 F2 HZ65 HZ64
  go_upto_region 3 with (fail)
  go_loopw [3] (fun u3 wr => ∃ i : Nat, u3 = .int .i64 i ∧ i ≤ 64 ∧ Hid (Ar wr ga 5 .u8 (fil L1 i 0)) ∧ Hid (Ar wr gb 5 .u8 (fil L2 i 0)) ∧ Hid (Fr (fun _ => False) w wr)) (fun u3 _ => 64 - (intOf u3).toNat)
  case atStart => exact ⟨0, rfl, by omega, A9, B9, G9⟩
  case round =>
  clear A9 B9 G9
  obtain ⟨i, rfl, hi, hA, hB, hF⟩ := hrel
  by_cases hil : i < 64
  · have e1 := G1.out i hil
    have e2 := G2.out i hil
    have cA := hA.out.cell (fil_get L1 i 0 (by have := E1.out.2.2.2; omega))
    have fA := hA.out.frozen i
    have A2 := Lib.hid (hA.out.set i 54)
    rw [fil_set L1 i 0 _ e1] at A2
    have t1 : ((i : Int)).toNat = i := by omega
    have t2 : 0 ≤ (i : Int) := by omega
    have t3 : (i : Int) < 64 := by omega
    have t4 : (i : Int) < 65 := by omega
    go_upto_region 6 with (fail)
    have B2 := Lib.hid (hB.out.far (a := ⟨ga, i, none⟩) (show gb ≠ ga from fun e => NG.out.2.2 e.symm) (.int .u8 54))
    have F2 := Lib.hid (hF.out.setCell (p := ⟨ga, i, none⟩) (.int .u8 54) (.inr NG.out.1))
    clear hA hB hF cA fA
    generalize wr.setCell ⟨ga, i, none⟩ (.int .u8 54) = w2 at *
    have cB := B2.out.cell (fil_get L2 i 0 (by have := E2.out.2.2; omega))
    have fB := B2.out.frozen i
    have B3 := Lib.hid (B2.out.set i 92)
    rw [fil_set L2 i 0 _ e2] at B3
    have A3 := Lib.hid (A2.out.far (a := ⟨gb, i, none⟩) NG.out.2.2 (.int .u8 92))
    have F3 := Lib.hid (F2.out.setCell (p := ⟨gb, i, none⟩) (.int .u8 92) (.inr NG.out.2.1))
    clear A2 B2 F2 e1 e2
    go_wp2
    go_roundw
    case rel => exact ⟨i + 1, by go_num, by omega, A3, B3, F3⟩
    case measure => simp [intOf]; omega
  obtain rfl : i = 64 := by omega
  have A9 : Hid (Ar wr ga 5 .u8 L1) := by have h := hA.out; rwa [E1.out.1] at h
  have B9 : Hid (Ar wr gb 5 .u8 L2) := by have h := hB.out; rwa [E2.out.1] at h
  clear hA hB
  go_upto_region 7 with (fail)
  have cA := A9.out.cell (G1.out 0 (by decide))
  have fA := A9.out.frozen 0
  go_upto_region 8 with (fail)
  have A10 := Lib.hid (A9.out.set 0 49)
  have B10 := Lib.hid (B9.out.far (a := ⟨ga, 0, none⟩) (show gb ≠ ga from fun e => NG.out.2.2 e.symm) (.int .u8 49))
  have F10 := Lib.hid (hF.out.setCell (p := ⟨ga, 0, none⟩) (.int .u8 49) (.inr NG.out.1))
  clear A9 B9 hF cA fA
  generalize wr.setCell ⟨ga, 0, none⟩ (.int .u8 49) = w10 at *
  have cB := B10.out.cell (G2.out 0 (by decide))
  have fB := B10.out.frozen 0
  go_upto_region 9 with (fail)
  have B11 := Lib.hid (B10.out.set 0 91)
  rw [E2.out.2.1] at B11
  have A11 := Lib.hid (A10.out.far (a := ⟨gb, 0, none⟩) NG.out.2.2 (.int .u8 91))
  have F11 := Lib.hid (F10.out.setCell (p := ⟨gb, 0, none⟩) (.int .u8 91) (.inr NG.out.2.1))
  clear A10 B10 F10 cB fB
  generalize w10.setCell ⟨gb, 0, none⟩ (.int .u8 91) = w11 at *
  have cA := A11.out.cell E1.out.2.2.1
  have fA := A11.out.frozen 64
  go_upto_region 10 with (fail)
  have A12 := Lib.hid (A11.out.set 64 9)
  rw [E1.out.2.1] at A12
  have B12 := Lib.hid (B11.out.far (a := ⟨ga, 64, none⟩) (show gb ≠ ga from fun e => NG.out.2.2 e.symm) (.int .u8 9))
  have F12 := Lib.hid (F11.out.setCell (p := ⟨ga, 64, none⟩) (.int .u8 9) (.inr NG.out.1))
  clear A11 B11 F11 cA fA G1 G2 E1 E2
  generalize w11.setCell ⟨ga, 64, none⟩ (.int .u8 9) = w12 at *
  go_upto_region 11 with (first
    | (go_at_call 29; refine (CS1 _ ga (A12.out.slt lI.out.2 lI.out.1 (by decide))).mono ?_; rintro e w13 ⟨rfl, hf⟩; have F13 := Lib.hid hf; clear hf)
    | refine wpList_store_row rfl 24 (.tmp 4) (.tmp 25) rfl w13.heap.size (vs .u8 D) rfl rfl 24 (vs .u8 Z) (heap_alloc_new w13 (.cells (vs .u8 Z) 24)) sD.out eD.out (vs_all _ _) ?_)
  obtain ⟨q4, hq4⟩ : ∃ q, q = w13.heap.size := ⟨_, rfl⟩
  have FQ : Fr (fun _ => False) w13 ((w13.alloc (.cells (vs .u8 Z) 24)).setRow w13.heap.size (vs .u8 D)) := ((Fr.refl _ w13).alloc _).setRow _ (.inr (Nat.le_refl _))
  have T14 : Hid (Ar ((w13.alloc (.cells (vs .u8 Z) 24)).setRow w13.heap.size (vs .u8 D)) q4 24 .u8 D) := by rw [hq4]; exact (Ar.new w13 24 .u8 Z).row D
  have G14 := Lib.hid (F13.out.trans FQ)
  have B14 := Lib.hid (B12.out.fr G14.out (fun x => x))
  have F14 := Lib.hid (F12.out.trans G14.out)
  rw [← hq4] at T14 G14 B14 F14 ⊢
  generalize (w13.alloc (.cells (vs .u8 Z) 24)).setRow q4 (vs .u8 D) = w14 at *
  clear FQ hq4 F13 F12 B12 A12 G14 CS1
  try simp only [Act.put, List.setIfInBounds_toArray, List.set_cons_succ, List.set_cons_zero]
  have LS1 : Hid (Sl ((w14.alloc (.cells #[.int .u8 7] 5)).alloc (.cells #[.int .u8 9] 5)) w14.heap.size (.slice (some ⟨w14.heap.size, 0, none⟩) 1 1) [7]) := (lit_sl w14 7 (by decide)).fr ((Fr.refl (fun _ => False) _).alloc _) (fun _ x => x)
  have LS2 : Hid (Sl ((w14.alloc (.cells #[.int .u8 7] 5)).alloc (.cells #[.int .u8 9] 5)) (w14.heap.size + 1) (.slice (some ⟨w14.heap.size + 1, 0, none⟩) 1 1) [9]) := by
    have h := lit_sl (w14.alloc (.cells #[.int .u8 7] 5)) 9 (by decide)
    have es : (w14.alloc (.cells #[.int .u8 7] 5)).heap.size = w14.heap.size + 1 := by
      show (w14.heap.push _).size = _
      rw [Array.size_push]
    rw [es] at h
    exact h
  have LF : Hid (Fr (fun _ => False) w14 ((w14.alloc (.cells #[.int .u8 7] 5)).alloc (.cells #[.int .u8 9] 5))) := ((Fr.refl _ _).alloc _).alloc _
  go_upto_region 12 with (first
    | (go_at_call 12; refine (CH _ w14.heap.size (w14.heap.size + 1) LS1.out LS2.out).mono ?_; rintro e w15 ⟨rfl, hf⟩; have F15 := Lib.hid (LF.out.trans hf); clear hf)
    | refine wpList_store_row rfl 24 (.tmp 5) (.tmp 28) rfl w15.heap.size (vs .u8 R) rfl rfl 24 (vs .u8 Z) (heap_alloc_new w15 (.cells (vs .u8 Z) 24)) sR.out eR.out (vs_all _ _) ?_)
  obtain ⟨q5, hq5⟩ : ∃ q, q = w15.heap.size := ⟨_, rfl⟩
  have FQ : Fr (fun _ => False) w15 ((w15.alloc (.cells (vs .u8 Z) 24)).setRow w15.heap.size (vs .u8 R)) := ((Fr.refl _ w15).alloc _).setRow _ (.inr (Nat.le_refl _))
  have T16 : Hid (Ar ((w15.alloc (.cells (vs .u8 Z) 24)).setRow w15.heap.size (vs .u8 R)) q5 24 .u8 R) := by rw [hq5]; exact (Ar.new w15 24 .u8 Z).row R
  have G16 := Lib.hid (F15.out.trans FQ)
  have D16 := Lib.hid (T14.out.fr G16.out (fun x => x))
  have B16 := Lib.hid (B14.out.fr G16.out (fun x => x))
  have F16 := Lib.hid (F14.out.trans G16.out)
  rw [← hq5] at T16 G16 B16 F16 D16 ⊢
  generalize (w15.alloc (.cells (vs .u8 Z) 24)).setRow q5 (vs .u8 R) = w16 at *
  clear FQ hq5 F15 F14 B14 T14 G16 LS1 LS2 LF CH hz
  try simp only [Act.put, List.setIfInBounds_toArray, List.set_cons_succ, List.set_cons_zero]
  refine wp_region_invG (fun b a w' => ∃ vA : Value, Fr (fun _ => False) w16 w' ∧ (b 7 = true → Ow w' vA (O ++ D)) ∧ a = ⟨#[if b 11 = true then .bool true else Value.bool false, Value.slice (some { block := ga, off := 0 }) 65 65, Value.slice (some { block := gb, off := 0 }) 64 64, Value.int IntKind.i64 64, Value.pointer (some { block := q4, off := 0 }), Value.pointer (some { block := q5, off := 0 }), Value.slice (some { block := ga, off := 0 }) 65 65, Value.slice (some { block := gb, off := 0 }) 64 64, Value.int IntKind.i64 64, Value.bool false, u10, u11, u12, u13, u14, u15, u16, u17, Value.slice (some { block := ga, off := 0 }) 65 65, Value.pointer (some { block := ga, off := 0 }), Value.slice (some { block := gb, off := 0 }) 64 64, Value.pointer (some { block := gb, off := 0 }), Value.slice (some { block := ga, off := 0 }) 65 65, Value.pointer (some { block := ga, off := 64 }), Value.slice (some { block := ga, off := 0 }) 65 65, Value.agg (vs IntKind.u8 D), Value.slice (some { block := w14.heap.size, off := 0 }) 1 1, Value.slice (some { block := w14.heap.size + 1, off := 0 }) 1 1, Value.agg (vs IntKind.u8 R), if b 0 = true then .agg (vs .u8 R) else undef, if b 1 = true then .agg (vs .u8 Z) else undef, if b 2 = true then .bool true else undef, if b 3 = true then .bool true else undef, if b 4 = true then .agg (vs .u8 R) else undef, if b 5 = true then Value.slice (some { block := gb, off := 0 }) 64 64 else undef, if b 6 = true then .slice (some ⟨q4, 0, none⟩) 32 32 else undef, if b 7 = true then vA else undef, if b 8 = true then .agg (vs .u8 R) else undef, if b 9 = true then .bool true else undef, if b 10 = true then .bool true else undef], []⟩) (by kernel_rfl) (by kernel_rfl) ?start12 ?step12 ?done12
  case start12 => exact ⟨undef, ⟨rfl, rfl, rfl, Nat.le_refl _, fun _ _ _ => rfl⟩, fun h => by simp at h, by simp⟩
  case step12 =>
    intro i5 o5 b a w1 ho hI hb hr
    obtain ⟨vA, hF, h7, rfl⟩ := hI
    match i5, ho with
    | 0, ho =>
      injection ho with ho
      subst ho
      refine ⟨by kernel_rfl, ?_⟩
      refine wp_quiet_here (.agg (vs .u8 R)) (quiet_load 24 (.tmp 5) rfl q5 rfl 24 _ (0, 0) _ (fun _ h => ((T16.out.fr hF (fun x => x)).fr h (fun x => x))) Try.underlying24 rfl sR.out rfl) (fun w2 hw2 => ?_)
      refine ⟨vA, hF.trans hw2, ?_, ?_⟩
      · intro hx
        have hy := h7 (by simpa [upd] using hx)
        exact hy.keep hw2 (fun _ _ x => x)
      · simp [upd, Act.put]
    | 1, ho =>
      injection ho with ho
      subst ho
      refine ⟨by kernel_rfl, ?_⟩
      refine wp_quiet_here (.agg (vs .u8 Z)) (quiet_run _ (fun W _ => by rw [UZ ()]; kernel_rfl) rfl) (fun w2 hw2 => ?_)
      refine ⟨vA, hF.trans hw2, ?_, ?_⟩
      · intro hx
        have hy := h7 (by simpa [upd] using hx)
        exact hy.keep hw2 (fun _ _ x => x)
      · simp [upd, Act.put]
    | 2, ho =>
      injection ho with ho
      subst ho
      simp [Region.binds] at hr
      have d0 : b 0 = true := by simp only [hr]
      have d1 : b 1 = true := by simp only [hr]
      simp only [hr, if_true]
      refine ⟨by kernel_rfl, ?_⟩
      refine wp_quiet_here (.bool true) ?_ (fun w2 hw2 => ?_)
      · go_big_quiet_op
        first
          | (simp [Act.put]; done)
          | exact ⟨_, fun _ _ => rfl, by simp [Act.put] <;> assumption⟩
      refine ⟨vA, hF.trans hw2, ?_, ?_⟩
      · intro hx
        have hy := h7 (by simpa [upd] using hx)
        exact hy.keep hw2 (fun _ _ x => x)
      · simp [upd, Act.put, hr]
    | 3, ho =>
      injection ho with ho
      subst ho
      simp [Region.binds] at hr
      have d2 : b 2 = true := by simp only [hr]
      simp only [hr, if_true]
      refine ⟨by kernel_rfl, ?_⟩
      refine wp_quiet_here (.bool true) (BigFrame.quiet_move _ rfl rfl) (fun w2 hw2 => ?_)
      refine ⟨vA, hF.trans hw2, ?_, ?_⟩
      · intro hx
        have hy := h7 (by simpa [upd] using hx)
        exact hy.keep hw2 (fun _ _ x => x)
      · simp [upd, Act.put, hr]
    | 4, ho =>
      injection ho with ho
      subst ho
      simp [Region.binds] at hr
      have d3 : b 3 = true := by simp only [hr]
      simp only [hr, if_true]
      refine ⟨by kernel_rfl, ?_⟩
      refine wp_quiet_here (.agg (vs .u8 R)) (quiet_load 24 (.tmp 5) rfl q5 rfl 24 _ (0, 0) _ (fun _ h => ((T16.out.fr hF (fun x => x)).fr h (fun x => x))) Try.underlying24 rfl sR.out rfl) (fun w2 hw2 => ?_)
      refine ⟨vA, hF.trans hw2, ?_, ?_⟩
      · intro hx
        have hy := h7 (by simpa [upd] using hx)
        exact hy.keep hw2 (fun _ _ x => x)
      · simp [upd, Act.put, hr]
    | 5, ho =>
      injection ho with ho
      subst ho
      simp [Region.binds] at hr
      have d3 : b 3 = true := by simp only [hr]
      simp only [hr, if_true]
      refine ⟨by kernel_rfl, ?_⟩
      refine wp_quiet_here (Value.slice (some { block := gb, off := 0 }) 64 64) (BigFrame.quiet_move _ rfl rfl) (fun w2 hw2 => ?_)
      refine ⟨vA, hF.trans hw2, ?_, ?_⟩
      · intro hx
        have hy := h7 (by simpa [upd] using hx)
        exact hy.keep hw2 (fun _ _ x => x)
      · simp [upd, Act.put, hr]
    | 6, ho =>
      injection ho with ho
      subst ho
      simp [Region.binds] at hr
      have d3 : b 3 = true := by simp only [hr]
      simp only [hr, if_true]
      refine ⟨by kernel_rfl, ?_⟩
      refine wp_quiet_here (.slice (some ⟨q4, 0, none⟩) 32 32) ?_ (fun w2 hw2 => ?_)
      · go_big_quiet_op
        first
          | (simp [Act.put]; done)
          | exact ⟨_, fun _ _ => rfl, by simp [Act.put] <;> assumption⟩
      refine ⟨vA, hF.trans hw2, ?_, ?_⟩
      · intro hx
        have hy := h7 (by simpa [upd] using hx)
        exact hy.keep hw2 (fun _ _ x => x)
      · simp [upd, Act.put, hr]
    | 7, ho =>
      injection ho with ho
      subst ho
      simp [Region.binds] at hr
      have d3 : b 3 = true := by simp only [hr]
      have d5 : b 5 = true := by simp only [hr]
      have d6 : b 6 = true := by simp only [hr]
      simp only [hr, if_true]
      refine ⟨by kernel_rfl, ?_⟩
      obtain ⟨c', w2, hrn, hon, hfN⟩ := run_grow 22 (l := O) (k := D) ((B16.out.fr hF (fun x => x)).slt lO.out.2 lO.out.1 (by decide)) ((D16.out.fr hF (fun x => x)).slt lD.out.2 lD.out.1 (by decide)) (by decide) (by decide)
      obtain ⟨gN, hgN⟩ : ∃ v, v = Value.slice (some ⟨w1.heap.size, 0, none⟩) (64 + 32) c' := ⟨_, rfl⟩
      refine wp_value gN w2 (by rw [hgN]; exact run_app2 (.tmp 34) (.tmp 35) rfl rfl rfl hrn) ?_
      have hfact : Ow w2 gN (O ++ D) := by rw [hgN]; exact hon
      refine ⟨gN, hF.trans hfN, ?_, ?_⟩
      · exact fun _ => hfact
      · simp [upd, Act.put, hr]
    | 8, ho =>
      injection ho with ho
      subst ho
      simp [Region.binds] at hr
      have d3 : b 3 = true := by simp only [hr]
      have d7 : b 7 = true := by simp only [hr]
      simp only [hr, if_true]
      refine ⟨by kernel_rfl, ?_⟩
      refine wp_quiet_here (.agg (vs .u8 R)) (quiet_call 29 #[vA] (.agg (vs .u8 R)) (fun _ => by kernel_rfl) (fun W' hc => (CS2 W' vA ((h7 d7).keep hc (fun _ _ x => x))).mono fun e w' ⟨he, hf⟩ => ⟨he, hc.trans hf⟩) rfl) (fun w2 hw2 => ?_)
      refine ⟨vA, hF.trans hw2, ?_, ?_⟩
      · intro hx
        have hy := h7 (by simpa [upd] using hx)
        exact hy.keep hw2 (fun _ _ x => x)
      · simp [upd, Act.put, hr]
    | 9, ho =>
      injection ho with ho
      subst ho
      simp [Region.binds] at hr
      have d3 : b 3 = true := by simp only [hr]
      have d4 : b 4 = true := by simp only [hr]
      have d8 : b 8 = true := by simp only [hr]
      simp only [hr, if_true]
      refine ⟨by kernel_rfl, ?_⟩
      refine wp_quiet_here (.bool true) ?_ (fun w2 hw2 => ?_)
      · go_big_quiet_op
        first
          | (simp [Act.put]; done)
          | exact ⟨_, fun _ _ => rfl, by simp [Act.put] <;> assumption⟩
      refine ⟨vA, hF.trans hw2, ?_, ?_⟩
      · intro hx
        have hy := h7 (by simpa [upd] using hx)
        exact hy.keep hw2 (fun _ _ x => x)
      · simp [upd, Act.put, hr]
    | 10, ho =>
      injection ho with ho
      subst ho
      simp [Region.binds] at hr
      have d3 : b 3 = true := by simp only [hr]
      have d9 : b 9 = true := by simp only [hr]
      simp only [hr, if_true]
      refine ⟨by kernel_rfl, ?_⟩
      refine wp_quiet_here (.bool true) ?_ (fun w2 hw2 => ?_)
      · go_big_quiet_op
        first
          | (simp [Act.put]; done)
          | exact ⟨_, fun _ _ => rfl, by simp [Act.put] <;> assumption⟩
      refine ⟨vA, hF.trans hw2, ?_, ?_⟩
      · intro hx
        have hy := h7 (by simpa [upd] using hx)
        exact hy.keep hw2 (fun _ _ x => x)
      · simp [upd, Act.put, hr]
    | 11, ho =>
      injection ho with ho
      subst ho
      simp [Region.binds] at hr
      have d0 : b 0 = true := by simp only [hr]
      have d1 : b 1 = true := by simp only [hr]
      have d2 : b 2 = true := by simp only [hr]
      have d3 : b 3 = true := by simp only [hr]
      have d4 : b 4 = true := by simp only [hr]
      have d5 : b 5 = true := by simp only [hr]
      have d6 : b 6 = true := by simp only [hr]
      have d7 : b 7 = true := by simp only [hr]
      have d8 : b 8 = true := by simp only [hr]
      have d9 : b 9 = true := by simp only [hr]
      have d10 : b 10 = true := by simp only [hr]
      simp only [hr, if_true]
      refine ⟨by kernel_rfl, ?_⟩
      refine wp_quiet_here (.bool true) (BigFrame.quiet_assign _ rfl rfl) (fun w2 hw2 => ?_)
      refine ⟨vA, hF.trans hw2, ?_, ?_⟩
      · intro hx
        have hy := h7 (by simpa [upd] using hx)
        exact hy.keep hw2 (fun _ _ x => x)
      · simp [upd, Act.put, hr]
    | j + 12, ho => exact absurd ho (by simp)
  intro b a w9 hall hI
  obtain ⟨vA, hF, h7, rfl⟩ := hI
  have t0 : b 0 = true := hall 0 (by simp)
  have t1 : b 1 = true := hall 1 (by simp)
  have t2 : b 2 = true := hall 2 (by simp)
  have t3 : b 3 = true := hall 3 (by simp)
  have t4 : b 4 = true := hall 4 (by simp)
  have t5 : b 5 = true := hall 5 (by simp)
  have t6 : b 6 = true := hall 6 (by simp)
  have t7 : b 7 = true := hall 7 (by simp)
  have t8 : b 8 = true := hall 8 (by simp)
  have t9 : b 9 = true := hall 9 (by simp)
  have t10 : b 10 = true := hall 10 (by simp)
  have t11 : b 11 = true := hall 11 (by simp)
  simp only [t0, t1, t2, t3, t4, t5, t6, t7, t8, t9, t10, t11, if_true]
  have PvA := Lib.hid (h7 t7)
  have G9 := Lib.hid hF
  clear hall hF h7 t0 t1 t2 t3 t4 t5 t6 t7 t8 t9 t10 t11
  go_wp2
  go_ret
  exact ⟨rfl, F16.out.trans G9.out⟩
end Go.Proofs.Ytebknlhooijkcaa
